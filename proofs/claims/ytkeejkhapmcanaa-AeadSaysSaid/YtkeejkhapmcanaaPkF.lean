/-
  Words and contracts that other texts share, several in one text. No statement of the seat is proved here. Conditions: as each contract says.
  The sealing of chapter 6 as lists of bytes: words for its walks. No statement is proved here. Conditions: none.
  Contract of aead.Key: the first 32 bytes of the block of count 0. Conditions: a key of 32 bytes, a nonce of 12.
  Contract of aead.alike: whether two tags are one. Conditions: both have 16 bytes.
  Contracts of aead.filling and aead.little: noughts up to whole blocks; a number in eight bytes behind what the call owns. Conditions: lengths below 2^46.
  Contract of aead.tagOf: the tag of what is hidden and of what stands beside it. Conditions: a key of 32 bytes, a nonce of 12; fewer than 2^40 bytes each.
  Contracts of aead.streamed, Seal and Open. Conditions: a key of 32 bytes, a nonce of 12; fewer than 2^40 bytes.
  Contract of law 6's awake: true. Conditions: none.
-/
import Derived.Test.YtkeejkhapmcanaaPkB
import Derived.Test.YtkeejkhapmcanaaPkC
import Derived.Test.YtkeejkhapmcanaaPkA
import Derived.Lib.SlBytesConst
namespace Go.Proofs.Ytkeejkhapmcanaa
open Go.RowKit

def akeyOf (key nonce : List UInt8) : List UInt8 := (blockOf key 0 nonce).take 32
theorem akeyOf_len (key nonce : List UInt8) : (akeyOf key nonce).length = 32 := by rw [akeyOf, List.length_take, blockOf_len]; rfl
def fillN (n : Nat) : Nat := (16 - n % 16) % 16
def fillOf (n : Nat) : List UInt8 := List.replicate (fillN n) 0
theorem fillOf_len (n : Nat) : (fillOf n).length = fillN n := List.length_replicate ..
theorem fillN_lt (n : Nat) : fillN n < 16 := Nat.mod_lt _ (by decide)
def lensOf (a c : Nat) : List UInt8 := le a 8 ++ le c 8
theorem lensOf_len (a c : Nat) : (lensOf a c).length = 16 := by rw [lensOf, List.length_append, le_len, le_len]
/-- What the tag is of. -/
def macText (beside hidden : List UInt8) : List UInt8 := [beside, fillOf beside.length, hidden, fillOf hidden.length, lensOf beside.length hidden.length].flatten
theorem macText_eq (b c : List UInt8) : macText b c = ((((b ++ fillOf b.length) ++ c) ++ fillOf c.length) ++ le b.length 8) ++ le c.length 8 := by simp [macText, lensOf]
theorem macText_len (b c : List UInt8) : (macText b c).length ≤ b.length + c.length + 46 := by
  have h1 := fillN_lt b.length
  have h2 := fillN_lt c.length
  simp only [macText_eq, List.length_append, fillOf_len, le_len]
  omega
def atagOf (key nonce hidden beside : List UInt8) : List UInt8 := tagOf (akeyOf key nonce) (macText beside hidden)
theorem atagOf_len (key nonce hidden beside : List UInt8) : (atagOf key nonce hidden beside).length = 16 := tagOf_len _ _
def sealOf (key nonce plain beside : List UInt8) : List UInt8 := xorOf key 1 nonce plain ++ atagOf key nonce (xorOf key 1 nonce plain) beside
theorem sealOf_len (key nonce plain beside : List UInt8) : (sealOf key nonce plain beside).length = plain.length + 16 := by rw [sealOf, List.length_append, xorOf_len, atagOf_len]
theorem sealOf_take (key nonce plain beside : List UInt8) (n : Nat) (h : plain.length = n) : (sealOf key nonce plain beside).take n = xorOf key 1 nonce plain := by
  rw [sealOf, List.take_append_of_le_length (by rw [xorOf_len, h]; exact Nat.le_refl _), List.take_of_length_le (by rw [xorOf_len, h]; exact Nat.le_refl _)]
theorem sealOf_drop (key nonce plain beside : List UInt8) (n : Nat) (h : plain.length = n) : (sealOf key nonce plain beside).drop n = atagOf key nonce (xorOf key 1 nonce plain) beside := by
  rw [sealOf, List.drop_append_of_le_length (by rw [xorOf_len, h]; exact Nat.le_refl _), List.drop_of_length_le (by rw [xorOf_len, h]; exact Nat.le_refl _), List.nil_append]
/-- What is opened, and the error's number. -/
def openOf (key nonce s beside : List UInt8) : List UInt8 × Nat :=
  if s.length < 16 then ([], 8) else if atagOf key nonce (s.take (s.length - 16)) beside = s.drop (s.length - 16) then (xorOf key 1 nonce (s.take (s.length - 16)), 0) else ([], 8)
theorem openOf_short (key nonce s beside : List UInt8) (h : s.length < 16) : openOf key nonce s beside = ([], 8) := by rw [openOf, if_pos h]
theorem openOf_no (key nonce s beside : List UInt8) (k : Nat) (h : s.length = k + 16) (hne : atagOf key nonce (s.take k) beside ≠ s.drop k) : openOf key nonce s beside = ([], 8) := by
  have e : s.length - 16 = k := by omega
  rw [openOf, e]
  by_cases h1 : s.length < 16
  · rw [if_pos h1]
  · rw [if_neg h1, if_neg hne]
theorem openOf_ok (key nonce s beside : List UInt8) (k : Nat) (h : s.length = k + 16) (he : atagOf key nonce (s.take k) beside = s.drop k) : openOf key nonce s beside = (xorOf key 1 nonce (s.take k), 0) := by
  have e : s.length - 16 = k := by omega
  rw [openOf, e, if_neg (by omega), if_pos he]
theorem openOf_seal (key nonce plain beside : List UInt8) : openOf key nonce (sealOf key nonce plain beside) beside = (plain, 0) := by
  rw [openOf_ok key nonce _ beside plain.length (sealOf_len _ _ _ _) (by rw [sealOf_take _ _ _ _ _ rfl, sealOf_drop _ _ _ _ _ rfl]), sealOf_take _ _ _ _ _ rfl, xor_twice]
/-- One byte of the tag turned. -/
theorem openOf_turned (key nonce plain beside : List UInt8) (k : Nat) (x : UInt8) (h1 : plain.length ≤ k) (h2 : k < plain.length + 16) (hx : (sealOf key nonce plain beside)[k]? ≠ some x) :
    openOf key nonce ((sealOf key nonce plain beside).set k x) beside = ([], 8) := by
  refine openOf_no key nonce _ beside plain.length (by rw [List.length_set, sealOf_len]) ?_
  intro he
  rw [List.take_set_of_le h1, sealOf_take _ _ _ _ _ rfl, ← sealOf_drop key nonce plain beside _ rfl] at he
  have h3 := congrArg (fun l : List UInt8 => l[k - plain.length]?) he
  simp only [List.getElem?_drop] at h3
  rw [show plain.length + (k - plain.length) = k by omega, List.getElem?_set_self (by rw [sealOf_len]; exact h2)] at h3
  exact hx h3
end Go.Proofs.Ytkeejkhapmcanaa
namespace Go.Proofs.Ytkeejkhapmcanaa
open Go.RowKit

theorem zero_w6 (w : World) : (zeroValue 24).run Try.prog w = .ok (.agg (bv z32).toArray) w := by kernel_rfl
theorem block_ex0 (w : World) (key nonce : List UInt8) (hk : key.length = 32) (hn : nonce.length = 12) :
    Calls Try.prog 22 #[.agg (bv key).toArray, .int .u32 0, .agg (bv nonce).toArray] w fun e w' => ∃ l, e = .returned (.agg (bv l).toArray) ∧ Vlt (l = blockOf key 0 nonce) ∧ Hid (l.length = 64) ∧ Below w.heap.size w w' := by
  have h := block_ex w key nonce 0 hk hn (by decide)
  exact h

set_option maxRecDepth 100000 in
set_option maxHeartbeats 1000000 in
theorem akey_any (w : World) (key nonce : List UInt8) (hk : key.length = 32) (hn : nonce.length = 12) :
    Calls Try.prog 11 #[.agg (bv key).toArray, .agg (bv nonce).toArray] w fun e w' => ∃ l, e = .returned (.agg (bv l).toArray) ∧ Vlt (l = akeyOf key nonce) ∧ Hid (l.length = 32) ∧ Below w.heap.size w w' := by
  have hz := zero_b64
  have hzw := zero_w6
  have HKS := Lib.hid (show (bv key).toArray.size = 32 by simp [bv_len, hk])
  have HNS := Lib.hid (show (bv nonce).toArray.size = 12 by simp [bv_len, hn])
  obtain ⟨W, hW, hgK, hgN, hgZ, hbW, hsW⟩ := three_new w (bv key).toArray (bv nonce).toArray (bv z32).toArray 24 25 24
  have HW := Lib.hid hW
  have hsW2 : w.heap.size + 2 < W.heap.size := by have := hsW.out; omega
  have hblk := block_ex0 W key nonce hk hn
  clear hW hk hn
  go_enter Try.func11, Try.ntmps11
  go_upto_region 1 with fail
  rw [HW.out]
  go_wp2_with (first
    | (with_reducible refine wpList_load_row rfl 24 (.tmp 2) rfl w.heap.size rfl 24 (bv key).toArray (0, 0) _ hgK.out Try.underlying24 rfl (by rw [HKS.out]; kernel_rfl) ?_)
    | (with_reducible refine wpList_load_row rfl 25 (.tmp 3) rfl (w.heap.size + 1) rfl 25 (bv nonce).toArray (0, 0) _ hgN.out Try.underlying25 rfl (by rw [HNS.out]; kernel_rfl) ?_))
  refine hblk.mono ?_
  rintro e w1 ⟨bl, rfl, hbl, hbll, hb1⟩
  clear hblk
  have HBS := Lib.hid (show (bv bl).toArray.size = 64 by simp [bv_len, hbll.out])
  have HZ64 := Lib.hid (show (bv z64).toArray.size = 64 from rfl)
  have hgZ1 : Hid (w1.heap[w.heap.size + 1 + 1]? = some (.cells (bv z32).toArray 24 (0, 0))) := (hb1.block _ hsW2).trans hgZ.out
  have hbw1 := below_next hbW hbW.size hb1
  have hs1 : w.heap.size + 1 + 1 < w1.heap.size := Nat.lt_of_lt_of_le hsW2 hb1.size
  obtain ⟨W2, hW2, hg5, hg6, hb2, hs2⟩ := pair_new w1 (bv bl).toArray (bv z32).toArray 40 24
  have HW2 := Lib.hid hW2
  clear hW2 hgK hgN hgZ HW
  go_upto_region 3 with ((with_reducible refine wpList_store_row rfl 40 (.tmp 5) (.tmp 9) rfl w1.heap.size (bv bl).toArray rfl rfl 40 _ (heap_alloc_new _ _) (by rw [HBS.out]; kernel_rfl) (by rw [HBS.out]; exact HZ64.out) (all_oneCell_toArray (bv_one _)) ?_); rw [World.setRow_alloc_new])
  rw [HW2.out]
  have hs2' := hs2.out
  have hgZ2 : Hid (W2.heap[w.heap.size + 1 + 1]? = some (.cells (bv z32).toArray 24 (0, 0))) := (hb2.block _ hs1).trans hgZ1.out
  have hbw2 := below_next hbw1 hbw1.size hb2
  have HK6 := Lib.hid (show (bv (bl.take 32)).toArray.size = 32 by simp [bv_len, hbll.out])
  have HZ32 := Lib.hid (show (bv z32).toArray.size = 32 from rfl)
  have HL6 := Lib.hid (show (bl.take 32).length = 32 by simp [hbll.out])
  have HKEY := vlt (show bl.take 32 = akeyOf key nonce by rw [akeyOf, ← hbl.out])
  have hc1 := cut_all Try.underlying24 Try.sizeByte (w1.heap.size + 1) 0 (by decide)
  have hc2 := cut_all Try.underlying40 Try.sizeByte w1.heap.size 0 (by decide)
  have hsrc := byt_row hg5.out
  clear hgZ1 hbw1 hb2 HW2
  go_region_law ((refine step_copy_but rfl (.tmp 10) (.tmp 11) 26 rfl 5 Try.underlying26 Try.sizeByte (w1.heap.size + 1) 0 32 32 64 64 (some ⟨w1.heap.size, 0, none⟩) (by rfl) (by rfl) (bv z32) 24 hg6.out bl W2.heap.size hsrc hbll.out (by decide) (by decide) W2 (But.refl _ W2).drew ?_; intro w3 hg3 hb3))
  have g3 : Hid (w3.heap[w1.heap.size + 1]? = some (.cells (bv (bl.take 32)).toArray 24 (0, 0))) := by
    have h1 := hg3.out
    rw [splice_all _ _ (by rw [HL6.out]; rfl)] at h1
    exact h1
  have hgZ3 : Hid (w3.heap[w.heap.size + 1 + 1]? = some (.cells (bv z32).toArray 24 (0, 0))) := (hb3.block _ (by omega) (by intro e; injection e; omega)).trans hgZ2.out
  have hbw3 : Below w.heap.size w w3 := But.below hbw2 hb3 (by omega) hbw2.size
  generalize bl.take 32 = out at *
  clear hg3 hb3 hgZ2 hbw2 hsrc hc1 hc2
  go_wp2_with (first
    | (with_reducible refine wpList_load_row rfl 24 (.tmp 6) rfl (w1.heap.size + 1) rfl 24 (bv out).toArray (0, 0) _ g3.out Try.underlying24 rfl (by rw [HK6.out]; kernel_rfl) ?_)
    | (with_reducible refine wpList_store_row rfl 24 (.tmp 4) (.tmp 13) rfl (w.heap.size + 1 + 1) (bv out).toArray rfl rfl 24 _ hgZ3.out (by rw [HK6.out]; kernel_rfl) (by rw [HK6.out]; exact HZ32.out) (all_oneCell_toArray (bv_one _)) ?_))
  refine bodyPost_ret (v := .agg (bv out).toArray) (results_cell_row Try.results11 _ _ (w.heap.size + 1 + 1) 24 _ (0, 0) _ rfl (setRow_heap _ _ _ _ _ _ hgZ3.out) Try.underlying24 rfl (by rw [HK6.out]; kernel_rfl)) rfl ⟨out, rfl, HKEY, HL6, below_setRow hbw3 (by omega) _⟩
end Go.Proofs.Ytkeejkhapmcanaa
namespace Go.Proofs.Ytkeejkhapmcanaa
open Go.RowKit

theorem or_none (a b : Nat) : (a ||| b = 0) ↔ (a = 0 ∧ b = 0) := Nat.or_eq_zero_iff
theorem xor_none (a b : Nat) : (a ^^^ b = 0) ↔ a = b := by
  constructor
  · intro h
    have : a ^^^ b ^^^ b = 0 ^^^ b := by rw [h]
    rw [Nat.xor_assoc, Nat.xor_self, Nat.xor_zero, Nat.zero_xor] at this
    exact this
  · rintro rfl; exact Nat.xor_self a
theorem both_more {a b : List UInt8} {k : Nat} (ha : k < a.length) (hb : k < b.length) : a.take (k + 1) = b.take (k + 1) ↔ (a.take k = b.take k ∧ a[k].toNat = b[k].toNat) := by
  rw [List.take_succ_eq_append_getElem ha, List.take_succ_eq_append_getElem hb]
  constructor
  · intro h
    obtain ⟨h3, h4⟩ := List.append_inj h (by simp; omega)
    exact ⟨h3, by simp at h4; rw [h4]⟩
  · rintro ⟨h3, h4⟩
    rw [h3, UInt8.toNat_inj.1 h4]

set_option maxRecDepth 100000 in
theorem alike_any (w : World) (a b : List UInt8) (ha : a.length = 16) (hb : b.length = 16) :
    Calls Try.prog 21 #[.agg (bv a).toArray, .agg (bv b).toArray] w fun e w' => e = .returned (.bool (decide (a = b))) ∧ Below w.heap.size w w' := by
  have HA := Lib.hid ha
  have HB := Lib.hid hb
  obtain ⟨W, hW, hgA, hgB, hbW, hsW⟩ := pair_new w (bv a).toArray (bv b).toArray 45 45
  have HW := Lib.hid hW
  clear hW ha hb
  go_enter Try.func21, Try.ntmps21
  go_upto_region 1 with fail
  rw [HW.out]
  go_wp2
  go_loopw [5, 6, 7] (fun t _ i wr => ∃ k U : Nat, k ≤ 16 ∧ i = .int .i64 (k : Int) ∧ t = .int .u8 (U : Int) ∧ U < 256 ∧ Hid (∃ q, wr = W.drewN q) ∧ Hid (U = 0 ↔ a.take k = b.take k)) (fun _ _ i _ => 16 - (intOf i).toNat)
  case atStart => exact ⟨0, 0, Nat.zero_le _, rfl, rfl, by omega, ⟨0, rfl⟩, by show _ ↔ _; simp⟩
  case round =>
    obtain ⟨k, U, hk, rfl, rfl, hU, hq, HU⟩ := hrel
    by_cases hlt : k < 16
    · have hka : k < a.length := by rw [HA.out]; exact hlt
      have hkb : k < b.length := by rw [HB.out]; exact hlt
      have hcell : wr.cell? ⟨w.heap.size, k, none⟩ = some (.int .u8 ((a[k].toNat : Nat) : Int)) := by obtain ⟨q, rfl⟩ := hq; exact byte_cell hgA.out (List.getElem?_eq_getElem hka)
      have hcell2 : wr.cell? ⟨w.heap.size + 1, k, none⟩ = some (.int .u8 ((b[k].toNat : Nat) : Int)) := by obtain ⟨q, rfl⟩ := hq; exact byte_cell hgB.out (List.getElem?_eq_getElem hkb)
      have hmore := Lib.hid (both_more hka hkb)
      have hx : a[k].toNat < 256 := UInt8.toNat_lt _
      have hy : b[k].toNat < 256 := UInt8.toNat_lt _
      generalize a[k].toNat = x at *
      generalize b[k].toNat = y at *
      have e1 : bits .xor .u8 (x : Int) (y : Int) = ((x ^^^ y : Nat) : Int) := u8_xor_nat x y hx hy
      have e2 : x ^^^ y < 256 := Nat.xor_lt_two_pow (n := 8) hx hy
      have e3 : Hid (x ^^^ y = 0 ↔ x = y) := xor_none x y
      generalize x ^^^ y = Y at *
      have e4 : bits .or .u8 (U : Int) (Y : Int) = ((U ||| Y : Nat) : Int) := u8_or_nat U Y hU e2
      have e5 : U ||| Y < 256 := Nat.or_lt_two_pow (n := 8) hU e2
      have e6 : Hid (U ||| Y = 0 ↔ (U = 0 ∧ Y = 0)) := or_none U Y
      generalize U ||| Y = V at *
      clear hka hkb
      go_wp2
      go_quiet (fail)
      go_wp2
      go_roundw
      case rel =>
        refine ⟨k + 1, V, by omega, by go_num, rfl, by omega, (by obtain ⟨q, rfl⟩ := hq; exact ⟨_, World.drewN_drewN _ _ _⟩), ?_⟩
        show _ ↔ _
        rw [e6.out, HU.out, e3.out, hmore.out]
      case measure => simp [intOf]; omega
    · have HK := Lib.hid (show k = 16 by omega)
      have hend : Hid (U = 0 ↔ a = b) := by
        have h := HU.out
        rw [HK.out, List.take_of_length_le (by rw [HA.out]; exact Nat.le_refl _), List.take_of_length_le (by rw [HB.out]; exact Nat.le_refl _)] at h
        exact h
      clear HU
      go_wp2
      go_ret
      refine ⟨ret_bool ?_, ?_⟩
      · rw [Bool.eq_iff_iff]
        simp [hend.out]
      · obtain ⟨q, rfl⟩ := hq
        exact below_drewN hbW q
end Go.Proofs.Ytkeejkhapmcanaa
namespace Go.Proofs.Ytkeejkhapmcanaa
open Go.RowKit

theorem afill_any (w : World) (n : Nat) (hn : n ≤ 1099511627776) :
    Calls Try.prog 32 #[.int .i64 (n : Int)] w fun e w' => ∃ A' c', e = .returned (.slice A' (fillN n) c') ∧ Res w' w.heap.size 5 A' (fillN n) c' (fillOf n) ∧ Below w.heap.size w w' := by
  obtain ⟨i0, hi, hz0, hz1, hz2⟩ := info_parts Try.infoByte
  have hk := fillN_lt n
  have hek : (16 - (n : Int) % 16) % 16 = ((fillN n : Nat) : Int) := by unfold fillN; omega
  have HF := Lib.hid (show fillOf n = List.replicate (fillN n) 0 from rfl)
  generalize fillN n = k at *
  obtain ⟨w1, hrun, hg1, hb1, hs1⟩ := make_bytes (P := Try.prog) Try.underlying26 hi hz0 hz1 hz2 k k (k : Int) (k : Int) rfl rfl (Nat.le_refl _) (by omega) w
  have hres : Hid (Res w1 w.heap.size 5 (some ⟨w.heap.size, 0, none⟩) k k (fillOf n)) := by
    show Res _ _ _ _ _ _ _
    rw [HF.out]
    exact Res.row (Nat.le_refl _) hg1.out (Nat.le_refl _) (by omega) (by simp [bv]) (by simp) (by simp [bv])
  go_enter Try.func32, Try.ntmps32
  go_wp2
  go_ret
  exact ⟨_, _, rfl, hres.out, hb1.out⟩

theorem alittle_own (w : World) (B : Nat) (A : Option Addr) (l : List UInt8) (n c v : Nat) (hr : Res w B 5 A n c l) (hB : B ≤ w.heap.size) (hn : n ≤ 1099511627776) (hv : v ≤ 1099511627776) :
    Calls Try.prog 30 #[.slice A n c, .int .i64 (v : Int)] w fun e w' => ∃ A' c', e = .returned (.slice A' (n + 8) c') ∧ Res w' B 5 A' (n + 8) c' (l ++ le v 8) ∧ Below B w w' := by
  go_enter Try.func30, Try.ntmps30
  go_wp2_with fail
  go_loopw [0, 5] (fun s i wr => ∃ (k : Nat) (A2 : Option Addr) (c2 : Nat), k ≤ 8 ∧ i = .int .i64 (8 * (k : Int)) ∧ s = .slice A2 (n + k) c2 ∧ Res wr B 5 A2 (n + k) c2 (l ++ le v k) ∧ Below B w wr) (fun _ i _ => 64 - (intOf i).toNat)
  case atStart => exact ⟨0, A, c, Nat.zero_le _, rfl, rfl, by simpa [le] using hr, Below.refl _ _⟩
  case round =>
    clear hr
    obtain ⟨k, A2, c2, hk, rfl, rfl, hres, hbel⟩ := hrel
    by_cases h0 : k < 8
    · go_wp2_with (at_builtin; refine wp_append_bytes _ rfl (.tmp 10) (.tmp 16) 26 rfl 5 Try.underlying26 Try.infoByte B A2 (n + k) c2 _ rfl (hres.alloc _) ⟨wr.heap.size, 0, none⟩ 1 1 rfl [UInt8.ofNat (v / 2 ^ (8 * k))] rfl (new_byte _ _ _ _ (byte_of v (8 * k))) (by omega) (by have := hbel.size; simp; omega) ?_)
      intro A3 c3 w3 hres3 hb3
      have hbel3 := hb3 B w (Nat.le_refl _) (hbel.alloc (by have := hbel.size; omega) _)
      clear hb3 hres hbel
      go_wp2
      go_roundw
      case rel => exact ⟨k + 1, A3, c3, by omega, by go_num, rfl, by rw [le]; exact hres3, hbel3⟩
      case measure => simp [intOf]; omega
    · obtain rfl : k = 8 := by omega
      go_wp2
      go_ret
      exact ⟨_, _, rfl, hres, hbel⟩
theorem alittle_nil (w : World) (v : Nat) (hv : v ≤ 1099511627776) :
    Calls Try.prog 30 #[.slice none 0 0, .int .i64 (v : Int)] w fun e w' => ∃ A' c', e = .returned (.slice A' 8 c') ∧ Res w' w.heap.size 5 A' 8 c' (le v 8) ∧ Below w.heap.size w w' := by
  have h := alittle_own w w.heap.size none [] 0 0 v (World.ownsRow_nil _ _ _ _) (Nat.le_refl _) (by decide) hv
  exact h
theorem alittle_two (w : World) (B : Nat) (A : Option Addr) (c u v : Nat) (hr : Res w B 5 A 8 c (le u 8)) (hB : B ≤ w.heap.size) (hv : v ≤ 1099511627776) :
    Calls Try.prog 30 #[.slice A 8 c, .int .i64 (v : Int)] w fun e w' => ∃ A' c', e = .returned (.slice A' 16 c') ∧ Res w' B 5 A' 16 c' (lensOf u v) ∧ Below B w w' := by
  have h := alittle_own w B A (le u 8) 8 c v hr hB (by decide) hv
  exact h
end Go.Proofs.Ytkeejkhapmcanaa
namespace Go.Proofs.Ytkeejkhapmcanaa
open Go.RowKit

/-- A list of lists in a new block. -/
theorem Prt.made {w : World} {E : TypeId} {cs : List Value} {ps : List (List UInt8)} (h : ∀ (j : Nat) (p : List UInt8), ps[j]? = some p → ∃ A n c, cs[j]? = some (Value.slice A n c) ∧ p.length = n ∧ n ≤ c ∧ Byt w w.heap.size A p) :
    Prt (w.alloc (.cells cs.toArray E)) (w.alloc (.cells cs.toArray E)).heap.size (some ⟨w.heap.size, 0, none⟩) ps := by
  refine .inr ⟨w.heap.size, 0, rfl, by simp, fun j p hj => ?_⟩
  obtain ⟨A, n, c, h1, h2, h3, h4⟩ := h j p hj
  exact ⟨A, n, c, by rw [Nat.zero_add, cell_of_row _ _ _ _ _ _ (heap_alloc_new w _)]; simpa using h1, h2, h3, (h4.alloc (Nat.le_refl _) _).up (by simp)⟩
theorem Prt.five {w : World} {E : TypeId} {A1 A2 A3 A4 A5 : Option Addr} {l1 l2 l3 l4 l5 : List UInt8} {n1 n2 n3 n4 n5 c1 c2 c3 c4 c5 : Nat}
    (h1 : Byt w w.heap.size A1 l1) (e1 : l1.length = n1) (f1 : n1 ≤ c1) (h2 : Byt w w.heap.size A2 l2) (e2 : l2.length = n2) (f2 : n2 ≤ c2) (h3 : Byt w w.heap.size A3 l3) (e3 : l3.length = n3) (f3 : n3 ≤ c3)
    (h4 : Byt w w.heap.size A4 l4) (e4 : l4.length = n4) (f4 : n4 ≤ c4) (h5 : Byt w w.heap.size A5 l5) (e5 : l5.length = n5) (f5 : n5 ≤ c5) :
    Prt (w.alloc (.cells #[.slice A1 n1 c1, .slice A2 n2 c2, .slice A3 n3 c3, .slice A4 n4 c4, .slice A5 n5 c5] E)) (w.alloc (.cells #[.slice A1 n1 c1, .slice A2 n2 c2, .slice A3 n3 c3, .slice A4 n4 c4, .slice A5 n5 c5] E)).heap.size (some ⟨w.heap.size, 0, none⟩) [l1, l2, l3, l4, l5] := by
  refine Prt.made (cs := [.slice A1 n1 c1, .slice A2 n2 c2, .slice A3 n3 c3, .slice A4 n4 c4, .slice A5 n5 c5]) fun j p hj => ?_
  match j, hj with
  | 0, hj => injection hj with hj; subst hj; exact ⟨A1, n1, c1, rfl, e1, f1, h1⟩
  | 1, hj => injection hj with hj; subst hj; exact ⟨A2, n2, c2, rfl, e2, f2, h2⟩
  | 2, hj => injection hj with hj; subst hj; exact ⟨A3, n3, c3, rfl, e3, f3, h3⟩
  | 3, hj => injection hj with hj; subst hj; exact ⟨A4, n4, c4, rfl, e4, f4, h4⟩
  | 4, hj => injection hj with hj; subst hj; exact ⟨A5, n5, c5, rfl, e5, f5, h5⟩
  | j + 5, hj => simp at hj
/-- The tag of five parts that lie somewhere. -/
theorem tag_five (w : World) (key : List UInt8) (hk : key.length = 32) {A1 A2 A3 A4 A5 : Option Addr} {l1 l2 l3 l4 l5 : List UInt8} {n1 n2 n3 n4 n5 c1 c2 c3 c4 c5 : Nat}
    (h1 : Byt w w.heap.size A1 l1) (e1 : l1.length = n1) (f1 : n1 ≤ c1) (h2 : Byt w w.heap.size A2 l2) (e2 : l2.length = n2) (f2 : n2 ≤ c2) (h3 : Byt w w.heap.size A3 l3) (e3 : l3.length = n3) (f3 : n3 ≤ c3)
    (h4 : Byt w w.heap.size A4 l4) (e4 : l4.length = n4) (f4 : n4 ≤ c4) (h5 : Byt w w.heap.size A5 l5) (e5 : l5.length = n5) (f5 : n5 ≤ c5) (hbig : n1 + n2 + n3 + n4 + n5 ≤ 288230376151711744) (T : List UInt8) (hT : T = tagOf key [l1, l2, l3, l4, l5].flatten) :
    Calls Try.prog 31 #[.agg (bv key).toArray, .slice (some ⟨w.heap.size, 0, none⟩) 5 5] (w.alloc (.cells #[.slice A1 n1 c1, .slice A2 n2 c2, .slice A3 n3 c3, .slice A4 n4 c4, .slice A5 n5 c5] 26)) fun e w' => e = .returned (.agg (bv T).toArray) ∧ Below w.heap.size w w' := by
  have b2 : Below w.heap.size w (w.alloc (.cells #[.slice A1 n1 c1, .slice A2 n2 c2, .slice A3 n3 c3, .slice A4 n4 c4, .slice A5 n5 c5] 26)) := (Below.refl _ _).alloc (Nat.le_refl _) _
  have hp := Prt.five (E := 26) h1 e1 f1 h2 e2 f2 h3 e3 f3 h4 e4 f4 h5 e5 f5
  have h := ptagAll_any _ key (some ⟨w.heap.size, 0, none⟩) [l1, l2, l3, l4, l5] 5 5 hk hp rfl (by simp only [List.flatten_cons, List.flatten_nil, List.append_nil, List.length_append]; omega) (by decide)
  rw [← hT] at h
  exact h.mono fun _ _ ⟨h1, h2⟩ => ⟨h1, b2.trans (h2.mono b2.size)⟩

set_option maxRecDepth 100000 in
set_option maxHeartbeats 1000000 in
theorem atag_any (w : World) (key nonce : List UInt8) (hk : key.length = 32) (hnn : nonce.length = 12) (A : Option Addr) (hidden : List UInt8) (n c : Nat) (ha : Byt w w.heap.size A hidden) (hl : hidden.length = n) (hc : n ≤ c) (hn : n ≤ 1099511627776)
    (D : Option Addr) (beside : List UInt8) (m d : Nat) (hb : Byt w w.heap.size D beside) (hm : beside.length = m) (hd : m ≤ d) (hmn : m ≤ 1099511627776) :
    Calls Try.prog 20 #[.agg (bv key).toArray, .agg (bv nonce).toArray, .slice A n c, .slice D m d] w fun e w' => ∃ l, e = .returned (.agg (bv l).toArray) ∧ Vlt (l = atagOf key nonce hidden beside) ∧ Hid (l.length = 16) ∧ Below w.heap.size w w' := by
  have hz := zero_b16
  have HK := Lib.hid hk
  have HN := Lib.hid hnn
  have HL := Lib.hid hl
  have HM := Lib.hid hm
  have HKS := Lib.hid (show (bv key).toArray.size = 32 by simp [bv_len, hk])
  have HNS := Lib.hid (show (bv nonce).toArray.size = 12 by simp [bv_len, hnn])
  obtain ⟨W, hW, hgK, hgN, hgZ, hbW, hsW⟩ := three_new w (bv key).toArray (bv nonce).toArray (bv z16).toArray 24 25 45
  have HW := Lib.hid hW
  have hsW0 : w.heap.size < W.heap.size := by have := hsW.out; omega
  have hsW1 : w.heap.size + 1 < W.heap.size := by have := hsW.out; omega
  have hsW2 : w.heap.size + 1 + 1 < W.heap.size := by have := hsW.out; omega
  have haW := (ha.below hbW).up hbW.size
  have hbbW := (hb.below hbW).up hbW.size
  clear hW hk hnn hl hm ha hb
  go_enter Try.func20, Try.ntmps20
  go_upto_region 1 with fail
  rw [HW.out]
  go_wp2_with fail
  refine (alittle_nil W m hmn).mono ?_
  rintro e w1 ⟨A1, c1, rfl, hr1, hb1⟩
  go_wp2_with fail
  refine (alittle_two w1 W.heap.size A1 c1 m n hr1 hb1.size hn).mono ?_
  rintro e w2 ⟨A2, c2, rfl, hr2, hb2'⟩
  have hb2 := hb1.trans hb2'
  have hgK2 : Hid (w2.heap[w.heap.size]? = some (.cells (bv key).toArray 24 (0, 0))) := (hb2.block _ hsW0).trans hgK.out
  have hgN2 : Hid (w2.heap[w.heap.size + 1]? = some (.cells (bv nonce).toArray 25 (0, 0))) := (hb2.block _ hsW1).trans hgN.out
  have hkey := akey_any w2 key nonce HK.out HN.out
  clear hr1 hb1 hb2' hgK hgN
  go_wp2_with (first
    | (with_reducible refine wpList_load_row rfl 24 (.tmp 4) rfl w.heap.size rfl 24 (bv key).toArray (0, 0) _ hgK2.out Try.underlying24 rfl (by rw [HKS.out]; kernel_rfl) ?_)
    | (with_reducible refine wpList_load_row rfl 25 (.tmp 5) rfl (w.heap.size + 1) rfl 25 (bv nonce).toArray (0, 0) _ hgN2.out Try.underlying25 rfl (by rw [HNS.out]; kernel_rfl) ?_))
  refine hkey.mono ?_
  rintro e w3 ⟨ky, rfl, hky, hkyl, hb3⟩
  clear hkey
  go_wp2_with fail
  refine (afill_any w3 m hmn).mono ?_
  rintro e w4 ⟨A4, c4, rfl, hr4, hb4⟩
  go_wp2_with fail
  refine (afill_any w4 n hn).mono ?_
  rintro e w5 ⟨A5, c5, rfl, hr5, hb5⟩
  have hb45 := below_next hb4 hb4.size hb5
  have hb25 : Below w2.heap.size w2 w5 := below_next hb3 hb3.size (hb45.mono (Nat.le_refl _))
  have k1 := (((hbbW.below hb2).up hb2.size).below hb25).up hb25.size
  have k2 := (hr4.keep hb5).byt
  have k3 := (((haW.below hb2).up hb2.size).below hb25).up hb25.size
  have k4 := hr5.byt
  have hr25 := hr2.keep hb25
  have k5 := hr25.byt
  have f2 := fillN_lt m
  have f4 := fillN_lt n
  have g2 := (hr4.keep hb5).cap
  have g4 := hr5.cap
  have g5 := hr25.cap
  obtain ⟨T, hT⟩ : ∃ T, T = atagOf key nonce hidden beside := ⟨_, rfl⟩
  have hTe : T = tagOf ky [beside, fillOf m, hidden, fillOf n, lensOf m n].flatten := by rw [hT, atagOf, macText, hky.out, HL.out, HM.out]
  have htag := tag_five w5 ky hkyl.out k1 HM.out hd k2 (fillOf_len m) g2 k3 HL.out hc k4 (fillOf_len n) g4 k5 (lensOf_len m n) g5 (by omega) T hTe
  have HT := vlt hT
  have HTL := Lib.hid (show T.length = 16 by rw [hT]; exact atagOf_len _ _ _ _)
  have HTS := Lib.hid (show (bv T).toArray.size = 16 by simp [bv_len, HTL.out])
  have HZ16 := Lib.hid (show (bv z16).toArray.size = 16 from rfl)
  have hbw2 := below_next hbW hbW.size hb2
  have hbw5 := below_next hbw2 hbw2.size hb25
  have hz2 : Hid (w5.heap[w.heap.size + 1 + 1]? = some (.cells (bv z16).toArray 45 (0, 0))) := (hb25.block _ (Nat.lt_of_lt_of_le hsW2 hb2.size)).trans ((hb2.block _ hsW2).trans hgZ.out)
  have hs5 : w.heap.size + 1 + 1 < w5.heap.size := (Array.getElem?_eq_some_iff.1 hz2.out).1
  generalize fillN m = fm at *
  generalize fillN n = fn at *
  clear hT hTe k1 k2 k3 k4 k5 hr2 hr4 hr5 hr25 hb3 hb4 hb5 hb45 hb25 hb2 hgK2 hgN2 haW hbbW hky hgZ f2 f4 g2 g4 g5
  go_wp2_with fail
  refine htag.mono ?_
  rintro e w6 ⟨rfl, hb6⟩
  have hz6 : Hid (w6.heap[w.heap.size + 1 + 1]? = some (.cells (bv z16).toArray 45 (0, 0))) := (hb6.block _ hs5).trans hz2.out
  have hbw6 := below_next hbw5 hbw5.size hb6
  clear htag hz2
  go_wp2_with (with_reducible refine wpList_store_row rfl 45 (.tmp 8) (.tmp 29) rfl (w.heap.size + 1 + 1) (bv T).toArray rfl rfl 45 _ hz6.out (by rw [HTS.out]; kernel_rfl) (by rw [HTS.out]; exact HZ16.out) (all_oneCell_toArray (bv_one _)) ?_)
  refine bodyPost_ret (v := .agg (bv T).toArray) (results_cell_row Try.results20 _ _ (w.heap.size + 1 + 1) 45 _ (0, 0) _ rfl (setRow_heap _ _ _ _ _ _ hz6.out) Try.underlying45 rfl (by rw [HTS.out]; kernel_rfl)) rfl ⟨T, rfl, HT, HTL, below_setRow hbw6 (by omega) _⟩
end Go.Proofs.Ytkeejkhapmcanaa
namespace Go.Proofs.Ytkeejkhapmcanaa
open Go.RowKit

set_option maxRecDepth 100000 in
theorem astream_any (w : World) (key nonce : List UInt8) (hk : key.length = 32) (hnn : nonce.length = 12) (A : Option Addr) (b : List UInt8) (n c : Nat) (hb : Byt w w.heap.size A b) (hl : b.length = n) (hc : n ≤ c) (hn : n ≤ 65536) :
    Calls Try.prog 19 #[.agg (bv key).toArray, .agg (bv nonce).toArray, .slice A n c] w fun e w' => ∃ A' c' X, e = .returned (.slice A' n c') ∧ Vlt (X = xorOf key 1 nonce b) ∧ Res w' w.heap.size 5 A' n c' X ∧ Below w.heap.size w w' := by
  have HKS := Lib.hid (show (bv key).toArray.size = 32 by simp [bv_len, hk])
  have HNS := Lib.hid (show (bv nonce).toArray.size = 12 by simp [bv_len, hnn])
  obtain ⟨W, hW, hgK, hgN, hbW, hsW⟩ := pair_new w (bv key).toArray (bv nonce).toArray 24 25
  have HW := Lib.hid hW
  have hx : Calls Try.prog 29 #[.agg (bv key).toArray, .int .u32 1, .agg (bv nonce).toArray, .slice A n c] W fun e w' => ∃ A' c', e = .returned (.tuple #[.slice A' n c', .int .i64 0]) ∧ Res w' W.heap.size 5 A' n c' (xorOf key 1 nonce b) ∧ Below W.heap.size W w' :=
    cxor_ok W key nonce b 1 A n c hk hnn (by decide) ((hb.below hbW).up hbW.size) hl hc (by omega) (by unfold nblk; omega)
  obtain ⟨X, hX⟩ : ∃ X, X = xorOf key 1 nonce b := ⟨_, rfl⟩
  rw [← hX] at hx
  have HX := vlt hX
  clear hW hk hnn hl hX hb
  go_enter Try.func19, Try.ntmps19
  go_upto_region 1 with fail
  rw [HW.out]
  go_wp2_with (first
    | (with_reducible refine wpList_load_row rfl 24 (.tmp 3) rfl w.heap.size rfl 24 (bv key).toArray (0, 0) _ hgK.out Try.underlying24 rfl (by rw [HKS.out]; kernel_rfl) ?_)
    | (with_reducible refine wpList_load_row rfl 25 (.tmp 4) rfl (w.heap.size + 1) rfl 25 (bv nonce).toArray (0, 0) _ hgN.out Try.underlying25 rfl (by rw [HNS.out]; kernel_rfl) ?_))
  refine hx.mono ?_
  rintro e w1 ⟨A1, c1, rfl, hr1, hb1⟩
  clear hx
  have hr := Lib.hid (hr1.base_le (B := w.heap.size) hbW.size)
  have hbw := below_next hbW hbW.size hb1
  clear hr1 hb1
  go_wp2
  go_ret
  exact ⟨_, _, X, rfl, HX, hr.out, hbw⟩

set_option maxRecDepth 100000 in
theorem aseal_no (w : World) (key nonce : List UInt8) (A D : Option Addr) (n c m d : Nat) (hn : 65536 < n) (hn2 : n ≤ 1099511627776) :
    Calls Try.prog 9 #[.agg (bv key).toArray, .agg (bv nonce).toArray, .slice A n c, .slice D m d] w fun e w' => e = .returned (.tuple #[.slice none 0 0, .int .i64 2]) ∧ Below w.heap.size w w' := by
  obtain ⟨W, hW, hgK, hgN, hbW, hsW⟩ := pair_new w (bv key).toArray (bv nonce).toArray 24 25
  have HW := Lib.hid hW
  clear hW
  go_enter Try.func9, Try.ntmps9
  go_upto_region 1 with fail
  rw [HW.out]
  go_wp2
  go_ret2
  exact ⟨rfl, hbW⟩

set_option maxRecDepth 100000 in
set_option maxHeartbeats 1000000 in
theorem aseal_ok (w : World) (key nonce : List UInt8) (hk : key.length = 32) (hnn : nonce.length = 12) (A : Option Addr) (plain : List UInt8) (n c : Nat) (ha : Byt w w.heap.size A plain) (hl : plain.length = n) (hc : n ≤ c) (hn : n ≤ 65536)
    (D : Option Addr) (beside : List UInt8) (m d : Nat) (hb : Byt w w.heap.size D beside) (hm : beside.length = m) (hd : m ≤ d) (hmn : m ≤ 1099511627776) :
    Calls Try.prog 9 #[.agg (bv key).toArray, .agg (bv nonce).toArray, .slice A n c, .slice D m d] w fun e w' => ∃ A' c' S, e = .returned (.tuple #[.slice A' (n + 16) c', .int .i64 0]) ∧ Vlt (S = sealOf key nonce plain beside) ∧ Res w' w.heap.size 5 A' (n + 16) c' S ∧ Below w.heap.size w w' := by
  have hz := zero_b16
  have HK := Lib.hid hk
  have HN := Lib.hid hnn
  have HL := Lib.hid hl
  have HM := Lib.hid hm
  have HKS := Lib.hid (show (bv key).toArray.size = 32 by simp [bv_len, hk])
  have HNS := Lib.hid (show (bv nonce).toArray.size = 12 by simp [bv_len, hnn])
  obtain ⟨W, hW, hgK, hgN, hbW, hsW⟩ := pair_new w (bv key).toArray (bv nonce).toArray 24 25
  have HW := Lib.hid hW
  have hsW0 : w.heap.size < W.heap.size := by have := hsW.out; omega
  have hsW1 : w.heap.size + 1 < W.heap.size := by have := hsW.out; omega
  have haW := (ha.below hbW).up hbW.size
  have hbbW := (hb.below hbW).up hbW.size
  clear hW hk hnn hl hm ha hb
  have hst := astream_any W key nonce HK.out HN.out A plain n c haW HL.out hc hn
  go_enter Try.func9, Try.ntmps9
  go_upto_region 1 with fail
  rw [HW.out]
  go_wp2_with (first
    | (with_reducible refine wpList_load_row rfl 24 (.tmp 4) rfl w.heap.size rfl 24 (bv key).toArray (0, 0) _ hgK.out Try.underlying24 rfl (by rw [HKS.out]; kernel_rfl) ?_)
    | (with_reducible refine wpList_load_row rfl 25 (.tmp 5) rfl (w.heap.size + 1) rfl 25 (bv nonce).toArray (0, 0) _ hgN.out Try.underlying25 rfl (by rw [HNS.out]; kernel_rfl) ?_))
  refine hst.mono ?_
  rintro e w1 ⟨A1, c1, X, rfl, hX, hr1, hb1⟩
  clear hst
  have hgK1 : Hid (w1.heap[w.heap.size]? = some (.cells (bv key).toArray 24 (0, 0))) := (hb1.block _ hsW0).trans hgK.out
  have hgN1 : Hid (w1.heap[w.heap.size + 1]? = some (.cells (bv nonce).toArray 25 (0, 0))) := (hb1.block _ hsW1).trans hgN.out
  have hbw1 := below_next hbW hbW.size hb1
  have htg := atag_any w1 key nonce HK.out HN.out A1 X n c1 hr1.byt hr1.len hr1.cap (by omega) D beside m d ((hbbW.below hb1).up hb1.size) HM.out hd hmn
  go_wp2_with (first
    | (with_reducible refine wpList_load_row rfl 24 (.tmp 4) rfl w.heap.size rfl 24 (bv key).toArray (0, 0) _ hgK1.out Try.underlying24 rfl (by rw [HKS.out]; kernel_rfl) ?_)
    | (with_reducible refine wpList_load_row rfl 25 (.tmp 5) rfl (w.heap.size + 1) rfl 25 (bv nonce).toArray (0, 0) _ hgN1.out Try.underlying25 rfl (by rw [HNS.out]; kernel_rfl) ?_))
  refine htg.mono ?_
  rintro e w2 ⟨T, rfl, hT, hTL, hb2⟩
  clear htg
  have HTS := Lib.hid (show (bv T).toArray.size = 16 by simp [bv_len, hTL.out])
  have HZ16 := Lib.hid (show (bv z16).toArray.size = 16 from rfl)
  have hr2 := hr1.keep hb2
  have hbw2 := below_next hbw1 hbw1.size hb2
  go_upto_region 5 with ((with_reducible refine wpList_store_row rfl 45 (.tmp 11) (.tmp 23) rfl w2.heap.size (bv T).toArray rfl rfl 45 _ (heap_alloc_new _ _) (by rw [HTS.out]; kernel_rfl) (by rw [HTS.out]; exact HZ16.out) (all_oneCell_toArray (bv_one _)) ?_); rw [World.setRow_alloc_new])
  have hg3 : Hid ((w2.alloc (.cells (bv T).toArray 45)).heap[w2.heap.size]? = some (.cells (bv T).toArray 45 (0, 0))) := heap_alloc_new _ _
  have hb3 : Below w2.heap.size w2 (w2.alloc (.cells (bv T).toArray 45)) := (Below.refl _ _).alloc (Nat.le_refl _) _
  generalize w2.alloc (.cells (bv T).toArray 45) = w3 at *
  have hr3 := Lib.hid ((hr2.keep hb3).base_le (B := w.heap.size) hbW.size)
  have hbw3 := below_next hbw2 hbw2.size hb3
  have hcl := cells_at (byt_row hg3.out)
  have hcut := cut_all Try.underlying45 Try.sizeByte w2.heap.size 0 (by decide)
  have HSEAL := vlt (show X ++ T = sealOf key nonce plain beside by rw [sealOf, ← hX.out, ← hT.out])
  clear hr1 hr2 hb1 hb2 hb3 hbw1 hbw2 hgK hgN hgK1 hgN1 hX hT haW hbbW HW
  go_wp2_with (at_builtin; refine wp_append_bytes _ rfl (.tmp 24) (.tmp 25) 26 rfl 5 Try.underlying26 Try.infoByte w.heap.size A1 n c1 X rfl hr3.out ⟨w2.heap.size, 0, none⟩ 16 16 rfl T hTL.out hcl (by omega) hbw3.size ?_)
  intro A4 c4 w4 hr4 hb4
  have hbw4 := hb4 w.heap.size w (Nat.le_refl _) hbw3
  clear hb4 hr3 hcut hcl
  go_wp2
  go_ret2
  exact ⟨A4, c4, X ++ T, rfl, HSEAL, hr4, hbw4⟩

set_option maxRecDepth 100000 in
theorem aopen_limit (w : World) (key nonce : List UInt8) (A D : Option Addr) (n c m d : Nat) (hn : 65552 < n) (hn2 : n ≤ 1099511627776) :
    Calls Try.prog 10 #[.agg (bv key).toArray, .agg (bv nonce).toArray, .slice A n c, .slice D m d] w fun e w' => e = .returned (.tuple #[.slice none 0 0, .int .i64 2]) ∧ Below w.heap.size w w' := by
  obtain ⟨W, hW, hgK, hgN, hbW, hsW⟩ := pair_new w (bv key).toArray (bv nonce).toArray 24 25
  have HW := Lib.hid hW
  have h1 : (65536 : Int) < (n : Int) - 16 := by omega
  clear hW
  go_enter Try.func10, Try.ntmps10
  go_upto_region 1 with fail
  rw [HW.out]
  go_wp2
  go_ret2
  exact ⟨rfl, hbW⟩

set_option maxRecDepth 100000 in
set_option maxHeartbeats 1000000 in
theorem aopen_any (w : World) (key nonce : List UInt8) (hk : key.length = 32) (hnn : nonce.length = 12) (A : Option Addr) (s : List UInt8) (n c : Nat) (ha : Byt w w.heap.size A s) (hl : s.length = n) (hc : n ≤ c) (hn : n ≤ 65552)
    (D : Option Addr) (beside : List UInt8) (m d : Nat) (hb : Byt w w.heap.size D beside) (hm : beside.length = m) (hd : m ≤ d) (hmn : m ≤ 1099511627776) :
    Calls Try.prog 10 #[.agg (bv key).toArray, .agg (bv nonce).toArray, .slice A n c, .slice D m d] w fun e w' => ∃ A' k c' p, ∃ x : Nat, e = .returned (.tuple #[.slice A' k c', .int .i64 (x : Int)]) ∧ Vlt ((p, x) = openOf key nonce s beside) ∧ Res w' w.heap.size 5 A' k c' p ∧ Below w.heap.size w w' := by
  have HK := Lib.hid hk
  have HN := Lib.hid hnn
  have HL := Lib.hid hl
  have HM := Lib.hid hm
  have HKS := Lib.hid (show (bv key).toArray.size = 32 by simp [bv_len, hk])
  have HNS := Lib.hid (show (bv nonce).toArray.size = 12 by simp [bv_len, hnn])
  have HKL := Lib.hid (show (bv key).length = 32 by rw [bv_len]; exact hk)
  have HNL := Lib.hid (show (bv nonce).length = 12 by rw [bv_len]; exact hnn)
  obtain ⟨W, hW, hgK, hgN, hbW, hsW⟩ := pair_new w (bv key).toArray (bv nonce).toArray 24 25
  have HW := Lib.hid hW
  have hsW0 : w.heap.size < W.heap.size := by have := hsW.out; omega
  have hsW1 : w.heap.size + 1 < W.heap.size := by have := hsW.out; omega
  have haW := (ha.below hbW).up hbW.size
  have hbbW := (hb.below hbW).up hbW.size
  have h1 : ¬ (65536 : Int) < (n : Int) - 16 := by omega
  clear hW hk hnn hl hm ha hb
  by_cases h16 : n < 16
  · have h2 : (n : Int) - 16 < 0 := by omega
    have HO := vlt (show (([], 8) : List UInt8 × Nat) = openOf key nonce s beside from (openOf_short key nonce s beside (by rw [HL.out]; exact h16)).symm)
    go_enter Try.func10, Try.ntmps10
    go_upto_region 1 with fail
    rw [HW.out]
    go_wp2
    go_ret2
    exact ⟨_, _, _, [], 8, rfl, HO, World.ownsRow_nil _ _ _ _, hbW⟩
  obtain ⟨k, hkn⟩ : ∃ k, n = k + 16 := ⟨n - 16, by omega⟩
  have HKN := Lib.hid hkn
  have h2 : (n : Int) - 16 = (k : Int) := by omega
  have h3 : ¬ ((k : Int) < 0) := by omega
  have h4 : ¬ (65536 : Int) < (k : Int) := by omega
  obtain ⟨g, o, hAe, hgl⟩ : ∃ g o, A = some ⟨g, o, none⟩ ∧ g < W.heap.size := by
    rcases haW with h | ⟨g, o, hA, hg, _⟩
    · have := HL.out
      rw [h] at this; simp at this; omega
    · exact ⟨g, o, hA, hg⟩
  subst hAe
  have hk64 : k ≤ 65536 := by omega
  have hkc : k ≤ c := by omega
  have hkn2 : k ≤ n := by omega
  have hcutH := run_cut_h (P := Try.prog) Try.underlying26 Try.sizeByte (some ⟨g, o, none⟩) n c k (k : Int) rfl hkc
  have hcutL := run_cut_l (P := Try.prog) Try.underlying26 Try.sizeByte (some ⟨g, o, none⟩) n c k (k : Int) rfl hkn2
  rw [if_neg (by omega), Option.map_some, addr_add, show n - k = 16 by omega] at hcutL
  have hat := fun w' => run_arrayAt (P := Try.prog) w' 45 5 16 (some ⟨g, o + k, none⟩) 16 (c - k) Try.underlying45 (by decide)
  have htake : Byt W W.heap.size (some ⟨g, o, none⟩) (s.take k) := haW.take k
  have hdrop : Byt W W.heap.size (some ⟨g, o + k, none⟩) (s.drop k) := by
    have h := haW.cut k c (by rw [HL.out]; exact hc)
    rwa [if_neg (by omega), Option.map_some, addr_add] at h
  have hrD := range_byt hdrop
  have hld := Lib.hid (show (s.drop k).length = 16 by rw [List.length_drop, HL.out, HKN.out]; omega)
  have hlD := Lib.hid (show (bv (s.drop k)).length = 16 by rw [bv_len]; exact hld.out)
  have hlt := Lib.hid (show (s.take k).length = k by rw [List.length_take, HL.out, HKN.out]; omega)
  have HNO := vlt (fun h => openOf_no key nonce s beside k (by rw [HL.out, HKN.out]) h)
  have HYES := vlt (fun h => openOf_ok key nonce s beside k (by rw [HL.out, HKN.out]) h)
  generalize s.take k = C at *
  generalize s.drop k = Y at *
  have htg := atag_any W.drew key nonce HK.out HN.out (some ⟨g, o, none⟩) C k c htake hlt.out hkc (by omega) D beside m d hbbW HM.out hd hmn
  clear haW hdrop hkn
  go_enter Try.func10, Try.ntmps10
  go_upto_region 1 with fail
  rw [HW.out]
  go_upto_region 7 with fail
  refine wp_region_held_drew (S := (fun W' => Below W.heap.size W W')) (by kernel_rfl) ((Below.refl _ _).drew) (fun hHeld => ?_)
  refine wpAnyH_take (i := 0) (oi := ⟨(some 22), _, _, _, _, _⟩) (v := _) rfl (by kernel_rfl) (by kernel_rfl) (by kernel_rfl) (fun _ _ _ h => h) (yieldsIf_load_mid (by rfl) _ _ rfl w.heap.size 0 rfl (bv key) _ (fun W' hW' => range_row ((hW'.block _ hsW0).trans hgK.out)) (Try.underlying24) (rfl) (by rw [HKL.out]; kernel_rfl)) hHeld ?_
  try simp only [Act.put, List.setIfInBounds_toArray, List.set_cons_zero, List.set_cons_succ]
  refine wpAnyH_take (i := 1) (oi := ⟨(some 23), _, _, _, _, _⟩) (v := _) rfl (by kernel_rfl) (by kernel_rfl) (by kernel_rfl) (fun _ _ _ h => h) (yieldsIf_load_mid (by rfl) _ _ rfl (w.heap.size + 1) 0 rfl (bv nonce) _ (fun W' hW' => range_row ((hW'.block _ hsW1).trans hgN.out)) (Try.underlying25) (rfl) (by rw [HNL.out]; kernel_rfl)) hHeld ?_
  try simp only [Act.put, List.setIfInBounds_toArray, List.set_cons_zero, List.set_cons_succ]
  refine wpAnyH_take (i := 2) (oi := ⟨(some 24), _, _, _, _, _⟩) (v := ?vq1_0) rfl (by kernel_rfl) (by kernel_rfl) (by kernel_rfl) (fun _ _ _ h => h) (Or.inl ⟨by rfl, ?yq1_0⟩) hHeld ?_
  case yq1_0 => (intro W0 hSw; go_simp; try with_reducible rfl)
  try simp only [Act.put, List.setIfInBounds_toArray, List.set_cons_zero, List.set_cons_succ]
  refine wpAnyH_take (i := 3) (oi := ⟨(some 25), _, _, _, _, _⟩) (v := ?vq1_1) rfl (by kernel_rfl) (by kernel_rfl) (by kernel_rfl) (fun _ _ _ h => h) (Or.inl ⟨by rfl, ?yq1_1⟩) hHeld ?_
  case yq1_1 => (intro W0 hSw; go_simp; try with_reducible rfl)
  try simp only [Act.put, List.setIfInBounds_toArray, List.set_cons_zero, List.set_cons_succ]
  refine wpAnyH_take (i := 5) (oi := ⟨(some 27), _, _, _, _, _⟩) (v := ?vq1_2) rfl (by kernel_rfl) (by kernel_rfl) (by kernel_rfl) (fun _ _ _ h => h) (Or.inl ⟨by rfl, ?yq1_2⟩) hHeld ?_
  case yq1_2 => (intro W0 hSw; go_simp; try with_reducible rfl)
  try simp only [Act.put, List.setIfInBounds_toArray, List.set_cons_zero, List.set_cons_succ]
  refine wpAnyH_take (i := 6) (oi := ⟨(some 28), _, _, _, _, _⟩) (v := ?vq1_3) rfl (by kernel_rfl) (by kernel_rfl) (by kernel_rfl) (fun _ _ _ h => h) (Or.inl ⟨by rfl, ?yq1_3⟩) hHeld ?_
  case yq1_3 => (intro W0 hSw; go_simp; try with_reducible rfl)
  try simp only [Act.put, List.setIfInBounds_toArray, List.set_cons_zero, List.set_cons_succ]
  refine wpAnyH_take (i := 7) (oi := ⟨(some 29), _, _, _, _, _⟩) (v := ?vq1_4) rfl (by kernel_rfl) (by kernel_rfl) (by kernel_rfl) (fun _ _ _ h => h) (Or.inl ⟨by rfl, ?yq1_4⟩) hHeld ?_
  case yq1_4 => (intro W0 hSw; go_simp; try with_reducible rfl)
  try simp only [Act.put, List.setIfInBounds_toArray, List.set_cons_zero, List.set_cons_succ]
  refine wpAnyH_take (i := 8) (oi := ⟨(some 30), _, _, _, _, _⟩) (v := ?vq1_5) rfl (by kernel_rfl) (by kernel_rfl) (by kernel_rfl) (fun _ _ _ h => h) (Or.inl ⟨by rfl, ?yq1_5⟩) hHeld ?_
  case yq1_5 => (intro W0 hSw; go_simp; try with_reducible rfl)
  try simp only [Act.put, List.setIfInBounds_toArray, List.set_cons_zero, List.set_cons_succ]
  refine wpAnyH_take (i := 9) (oi := ⟨(some 31), _, _, _, _, _⟩) (v := _) rfl (by kernel_rfl) (by kernel_rfl) (by kernel_rfl) (fun _ _ _ h => h) (yieldsIf_load_mid (by rfl) _ _ rfl g (o + k) rfl (bv Y) _ (fun W' hW' => range_below hrD hgl hW') (Try.underlying45) (rfl) (by rw [hlD.out]; kernel_rfl)) hHeld ?_
  try simp only [Act.put, List.setIfInBounds_toArray, List.set_cons_zero, List.set_cons_succ]
  refine wpAnyH_ready (rs := [4]) (by kernel_rfl) (by simp) ?_
  refine AllReadyH.cons (i := 4) (o := ⟨(some 26), _, _, _, _, _⟩) rfl (fun K hK => ?_) AllReadyH.nil
  go_simp
  refine htg.mono ?_
  rintro e w2 ⟨T, rfl, hT, hTL, hb2d⟩
  have hb2 : Below W.heap.size W w2 := below_undrew hb2d
  refine hK.out _ _ (hb2) (fun hHeld => ?_)
  clear hK K
  try simp only [Act.put, List.setIfInBounds_toArray, List.set_cons_zero, List.set_cons_succ]
  clear htg
  refine wpAnyH_ready (rs := [10]) (by kernel_rfl) (by simp) ?_
  refine AllReadyH.cons (i := 10) (o := ⟨(some 32), _, _, _, _, _⟩) rfl (fun K hK => ?_) AllReadyH.nil
  go_simp
  refine (alike_any w2 T Y hTL.out hld.out).mono ?_
  rintro e w3 ⟨rfl, hb3d⟩
  have hb3 : Below W.heap.size W w3 := below_next hb2 hb2.size hb3d
  refine hK.out _ _ (hb3) (fun hHeld => ?_)
  clear hK K
  try simp only [Act.put, List.setIfInBounds_toArray, List.set_cons_zero, List.set_cons_succ]
  refine wpAnyH_take (i := 11) (oi := ⟨(some 33), _, _, _, _, _⟩) (v := ?vq1_6) rfl (by kernel_rfl) (by kernel_rfl) (by kernel_rfl) (fun _ _ _ h => h) (Or.inl ⟨by rfl, ?yq1_6⟩) hHeld ?_
  case yq1_6 => (intro W0 hSw; go_simp; try with_reducible rfl)
  try simp only [Act.put, List.setIfInBounds_toArray, List.set_cons_zero, List.set_cons_succ]
  refine wpAnyH_done (by kernel_rfl) ?_ _
  clear hb2 hb2d hb3d hrD hat hcutL hcutH
  have hbw3 := below_next hbW hbW.size hb3
  by_cases hTY : T = Y
  · have HE := vlt (show (xorOf key 1 nonce C, 0) = openOf key nonce s beside from (HYES.out (by rw [← hT.out]; exact hTY)).symm)
    have hgK3 : Hid (w3.heap[w.heap.size]? = some (.cells (bv key).toArray 24 (0, 0))) := (hb3.block _ hsW0).trans hgK.out
    have hgN3 : Hid (w3.heap[w.heap.size + 1]? = some (.cells (bv nonce).toArray 25 (0, 0))) := (hb3.block _ hsW1).trans hgN.out
    have hst := astream_any w3 key nonce HK.out HN.out (some ⟨g, o, none⟩) C k c ((htake.below hb3).up hb3.size) hlt.out hkc hk64
    rw [show decide (T = Y) = true by simp [hTY]]
    clear hT HNO HYES hTY
    go_wp2_with (first
      | (with_reducible refine wpList_load_row rfl 24 (.tmp 4) rfl w.heap.size rfl 24 (bv key).toArray (0, 0) _ hgK3.out Try.underlying24 rfl (by rw [HKS.out]; kernel_rfl) ?_)
      | (with_reducible refine wpList_load_row rfl 25 (.tmp 5) rfl (w.heap.size + 1) rfl 25 (bv nonce).toArray (0, 0) _ hgN3.out Try.underlying25 rfl (by rw [HNS.out]; kernel_rfl) ?_))
    refine hst.mono ?_
    rintro e w4 ⟨A4, c4, X, rfl, hX, hr4, hb4⟩
    clear hst
    have HE2 := vlt (show (X, 0) = openOf key nonce s beside by rw [hX.out]; exact HE.out)
    have hr := Lib.hid (hr4.base_le (B := w.heap.size) hbw3.size)
    have hbw4 := below_next hbw3 hbw3.size hb4
    clear hr4 hb4 hX HE
    go_wp2
    go_ret2
    exact ⟨A4, k, c4, X, 0, rfl, HE2, hr.out, hbw4⟩
  · have HE := vlt (show (([], 8) : List UInt8 × Nat) = openOf key nonce s beside from (HNO.out (by rw [← hT.out]; exact hTY)).symm)
    rw [show decide (T = Y) = false by simp [hTY]]
    clear hT HNO HYES hTY
    go_wp2
    go_ret2
    exact ⟨none, 0, 0, [], 8, rfl, HE, World.ownsRow_nil _ _ _ _, hbw3⟩
end Go.Proofs.Ytkeejkhapmcanaa
namespace Go.Proofs.Ytkeejkhapmcanaa
open Go.RowKit

def awk : List UInt8 := 1 :: List.replicate 31 0
def awn : List UInt8 := 2 :: List.replicate 11 0
theorem built_awk : Try.prog.built 24 [(0, .int .u8 1)] = some (bv awk).toArray := by kernel_rfl
theorem built_awn : Try.prog.built 25 [(0, .int .u8 2)] = some (bv awn).toArray := by kernel_rfl
theorem seal_lit (w : World) (K M : Array Value) (hK : K.toList = bv [120]) (hM : M.toList = bv [121]) (f g : Nat × Nat) :
    Calls Try.prog 9 #[.agg (bv awk).toArray, .agg (bv awn).toArray, .slice (some ⟨w.heap.size, 0, none⟩) 1 1, .slice (some ⟨w.heap.size + 1, 0, none⟩) 1 1] ((w.alloc (.cells K 5 f)).alloc (.cells M 5 g))
      fun e w' => ∃ A' c' S, e = .returned (.tuple #[.slice A' 17 c', .int .i64 0]) ∧ Vlt (S = sealOf awk awn [120] [121]) ∧ Res w' w.heap.size 5 A' 17 c' S ∧ Below w.heap.size w w' := by
  have b1 : Below w.heap.size w (w.alloc (.cells K 5 f)) := (Below.refl _ _).alloc (Nat.le_refl _) _
  have b2 : Below w.heap.size w ((w.alloc (.cells K 5 f)).alloc (.cells M 5 g)) := b1.alloc b1.size _
  have hk := Byt.lit_cold w 5 K f [120] hK
  have hm := Byt.lit_cold (w.alloc (.cells K 5 f)) 5 M g [121] hM
  have e1 : (w.alloc (.cells K 5 f)).heap.size = w.heap.size + 1 := by simp
  have e2 : ((w.alloc (.cells K 5 f)).alloc (.cells M 5 g)).heap.size = w.heap.size + 2 := by simp
  rw [e1] at hk hm
  have hk3 := (hk.alloc (by rw [e1]; exact Nat.le_refl _) (.cells M 5 g)).up (by rw [e2]; omega : w.heap.size + 1 ≤ ((w.alloc (.cells K 5 f)).alloc (.cells M 5 g)).heap.size)
  have h := aseal_ok _ awk awn rfl rfl (some ⟨w.heap.size, 0, none⟩) [120] 1 1 hk3 rfl (Nat.le_refl _) (by decide) (some ⟨w.heap.size + 1, 0, none⟩) [121] 1 1 hm rfl (Nat.le_refl _) (by decide)
  refine h.mono ?_
  rintro e w' ⟨A', c', S, rfl, hS, hr, hb⟩
  exact ⟨A', c', S, rfl, hS, hr.base_le b2.size, b2.trans (hb.mono b2.size)⟩
theorem open_lit (w : World) (M : Array Value) (hM : M.toList = bv [121]) (g : Nat × Nat) (A : Option Addr) (c : Nat) (S : List UInt8) (hS : Vlt (S = sealOf awk awn [120] [121])) (hb : Byt w w.heap.size A S) (hc : 17 ≤ c) :
    Calls Try.prog 10 #[.agg (bv awk).toArray, .agg (bv awn).toArray, .slice A 17 c, .slice (some ⟨w.heap.size, 0, none⟩) 1 1] (w.alloc (.cells M 5 g))
      fun e w' => ∃ A' c', e = .returned (.tuple #[.slice A' 1 c', .int .i64 0]) ∧ Res w' w.heap.size 5 A' 1 c' [120] ∧ Below w.heap.size w w' := by
  have b1 : Below w.heap.size w (w.alloc (.cells M 5 g)) := (Below.refl _ _).alloc (Nat.le_refl _) _
  have hm := Byt.lit_cold w 5 M g [121] hM
  have hS1 : S.length = 17 := by rw [hS.out, sealOf_len]; rfl
  have h := aopen_any _ awk awn rfl rfl A S 17 c ((hb.below b1).up b1.size) hS1 hc (by decide) (some ⟨w.heap.size, 0, none⟩) [121] 1 1 hm rfl (Nat.le_refl _) (by decide)
  refine h.mono ?_
  rintro e w' ⟨A', k, c', p, x, rfl, hp, hr, hb⟩
  have h2 := hp.out
  rw [hS.out, openOf_seal] at h2
  injection h2 with h3 h4
  subst h3 h4
  have hk : k = 1 := hr.len.symm
  subst hk
  exact ⟨A', c', rfl, hr.base_le b1.size, b1.trans (hb.mono b1.size)⟩

set_option maxRecDepth 100000 in
set_option maxHeartbeats 1000000 in
theorem awake6_any (w : World) :
    Calls Try.prog 7 #[] w fun e w' => e = .returned (.bool true) ∧ Below w.heap.size w w' := by
  have kc := fun (w : World) (C : Array Value) (n c : Nat) => Lib.run_convert_bytes_const (P := Try.prog) w 26 5 C n c Try.underlying26 Try.underlying5
  have kc2 : ∀ (o : Obj) (C : Array Value) (n c : Nat), (convert 26 26 (.slice (some ⟨w.heap.size + 1, 0, none⟩) n c)).run Try.prog ((w.alloc o).alloc (.cells C 5)) = .ok (.slice (some ⟨w.heap.size + 1, 0, none⟩) n c) ((w.alloc o).alloc (.cells C 5 (C.size, C.size + 1))) := by
    intro o C n c
    have h1 := kc (w.alloc o) C n c
    have e1 : (w.alloc o).heap.size = w.heap.size + 1 := by simp
    rw [e1] at h1
    exact h1
  go_enter Try.func7, Try.ntmps7
  go_wp2_with (first
    | (with_reducible refine wpList_build_to rfl 24 _ rfl [(0, .int .u8 1)] (by rfl) _ built_awk ?_)
    | (with_reducible refine wpList_build_to rfl 25 _ rfl [(0, .int .u8 2)] (by rfl) _ built_awn ?_))
  refine (seal_lit w _ _ rfl rfl _ _).mono ?_
  rintro e w2 ⟨A2, c2, S, rfl, hS, hr2, hb2⟩
  clear kc2
  go_wp2_with (first
    | (with_reducible refine wpList_build_to rfl 24 _ rfl [(0, .int .u8 1)] (by rfl) _ built_awk ?_)
    | (with_reducible refine wpList_build_to rfl 25 _ rfl [(0, .int .u8 2)] (by rfl) _ built_awn ?_))
  refine (open_lit w2 _ rfl _ A2 c2 S hS hr2.byt hr2.cap).mono ?_
  rintro e w3 ⟨A3, c3, rfl, hr3, hb3⟩
  have k1 := conv_bytes (P := Try.prog) Try.underlying26 Try.underlying5 Try.underlying9 hr3.byt 1 c3 rfl
  have hbw := below_next hb2 hb2.size hb3
  clear kc hr2 hr3 hS hb2 hb3
  go_wp2
  go_ret
  exact ⟨rfl, hbw⟩
end Go.Proofs.Ytkeejkhapmcanaa
