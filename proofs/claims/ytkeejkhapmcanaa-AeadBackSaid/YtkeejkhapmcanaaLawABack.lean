/-
  AeadBack: the law's Go text returns true, whatever the key, the nonce, the text, what stands beside it and the bit that is turned. Conditions: the slices are as the row reads them.
-/
import Derived.Test.YtkeejkhapmcanaaPkF
import Derived.Test.YtkeejkhapmcanaaPkG
import Derived.Test.YtkeejkhapmcanaaPkA
namespace Go.Proofs.Ytkeejkhapmcanaa
open Go.RowKit

theorem and7 (n : Int) : bits .and .i64 n 7 = n % 8 := by
  have h : (BitVec.ofInt 64 n &&& BitVec.ofInt 64 7).toNat = (BitVec.ofInt 64 n).toNat % 8 := by
    rw [BitVec.toNat_and, show (BitVec.ofInt 64 7).toNat = 2 ^ 3 - 1 from rfl, Nat.and_two_pow_sub_one_eq_mod]
  show IntKind.i64.wrap ((BitVec.ofInt 64 n &&& BitVec.ofInt 64 7).toNat : Int) = _
  rw [h, BitVec.toNat_ofInt, IntKind.wrap_i64]
  omega
theorem xor_other (x y : Nat) (hy : 0 < y) : x ^^^ y ≠ x := by
  intro h
  have h2 : x ^^^ (x ^^^ y) = x ^^^ x := by rw [h]
  rw [← Nat.xor_assoc, Nat.xor_self, Nat.zero_xor] at h2
  omega

set_option maxRecDepth 100000 in
set_option maxHeartbeats 2000000 in
theorem walk_AeadBack (w : World) (key : List UInt8) (hk : key.length = 32) (nonce : List UInt8) (hnn : nonce.length = 12) (A : Option Addr) (plain : List UInt8) (n c : Nat) (ha : Byt w w.heap.size A plain) (hl : plain.length = n) (hc : n ≤ c)
    (D : Option Addr) (beside : List UInt8) (m d : Nat) (hb : Byt w w.heap.size D beside) (hm : beside.length = m) (hd : m ≤ d) (G : Option Addr) (other : List UInt8) (q f : Nat) (hg : Byt w w.heap.size G other) (hq : other.length = q) (hf : q ≤ f)
    (pos : Int) (_ : (Lit.int .i64 pos).wf = true) (bit : Int) (_ : (Lit.int .i64 bit).wf = true) :
    Calls Try.prog 5 #[.agg (bv key).toArray, .agg (bv nonce).toArray, .slice A n c, .slice D m d, .slice G q f, .int .i64 pos, .int .i64 bit] w fun e w' => e = .returned (.bool true) ∧ Below w.heap.size w w' := by
  have HK := Lib.hid hk
  have HN := Lib.hid hnn
  have HL := Lib.hid hl
  have HM := Lib.hid hm
  have HQ := Lib.hid hq
  have HKS := Lib.hid (show (bv key).toArray.size = 32 by simp [bv_len, hk])
  have HNS := Lib.hid (show (bv nonce).toArray.size = 12 by simp [bv_len, hnn])
  obtain ⟨W, hW, hgK, hgN, hbW, hsW⟩ := pair_new w (bv key).toArray (bv nonce).toArray 24 25
  have HW := Lib.hid hW
  have hsW0 : w.heap.size < W.heap.size := by have := hsW.out; omega
  have hsW1 : w.heap.size + 1 < W.heap.size := by have := hsW.out; omega
  clear hW hk hnn hl hm hq
  go_enter Try.func5, Try.ntmps5
  go_upto_region 1 with fail
  rw [HW.out]
  go_wp2_with fail
  refine (awake6_any W).mono ?_
  rintro e w1 ⟨rfl, hb1⟩
  have hgK1 : Hid (w1.heap[w.heap.size]? = some (.cells (bv key).toArray 24 (0, 0))) := (hb1.block _ hsW0).trans hgK.out
  have hgN1 : Hid (w1.heap[w.heap.size + 1]? = some (.cells (bv nonce).toArray 25 (0, 0))) := (hb1.block _ hsW1).trans hgN.out
  have hbw1 : Below w.heap.size w w1 := below_next hbW hbW.size hb1
  have hs1 : w.heap.size + 1 < w1.heap.size := Nat.lt_of_lt_of_le hsW1 hb1.size
  clear hgK hgN hb1 hbW hsW hsW0 hsW1 HW
  by_cases h200 : (200 : Int) < (n : Int)
  · go_wp2
    go_ret
    exact ⟨rfl, hbw1⟩
  by_cases h100 : (100 : Int) < (m : Int)
  · go_wp2
    go_ret
    exact ⟨rfl, hbw1⟩
  by_cases q100 : (100 : Int) < (q : Int)
  · go_wp2
    go_ret
    exact ⟨rfl, hbw1⟩
  have hn : n ≤ 200 := by omega
  have hm100 : m ≤ 100 := by omega
  have hq100 : q ≤ 100 := by omega
  have hseal := aseal_ok w1 key nonce HK.out HN.out A plain n c ((ha.below hbw1).up hbw1.size) HL.out hc (by omega) D beside m d ((hb.below hbw1).up hbw1.size) HM.out hd (by omega)
  go_wp2_with (first
    | (with_reducible refine wpList_load_row rfl 24 (.tmp 7) rfl w.heap.size rfl 24 (bv key).toArray (0, 0) _ hgK1.out Try.underlying24 rfl (by rw [HKS.out]; kernel_rfl) ?_)
    | (with_reducible refine wpList_load_row rfl 25 (.tmp 8) rfl (w.heap.size + 1) rfl 25 (bv nonce).toArray (0, 0) _ hgN1.out Try.underlying25 rfl (by rw [HNS.out]; kernel_rfl) ?_))
  refine hseal.mono ?_
  rintro e w2 ⟨A2, c2, S, rfl, hS, hr2, hb2⟩
  clear hseal h200 h100 q100
  have hgK2 : Hid (w2.heap[w.heap.size]? = some (.cells (bv key).toArray 24 (0, 0))) := (hb2.block _ (by omega)).trans hgK1.out
  have hgN2 : Hid (w2.heap[w.heap.size + 1]? = some (.cells (bv nonce).toArray 25 (0, 0))) := (hb2.block _ hs1).trans hgN1.out
  have hbw2 := below_next hbw1 hbw1.size hb2
  have hs2 : w.heap.size + 1 < w2.heap.size := Nat.lt_of_lt_of_le hs1 hb2.size
  have hopen := aopen_any w2 key nonce HK.out HN.out A2 S (n + 16) c2 hr2.byt hr2.len hr2.cap (by omega) D beside m d ((hb.below hbw2).up hbw2.size) HM.out hd (by omega)
  clear hgK1 hgN1 hb2 hs1 hbw1
  go_wp2_with (first
    | (with_reducible refine wpList_load_row rfl 24 (.tmp 7) rfl w.heap.size rfl 24 (bv key).toArray (0, 0) _ hgK2.out Try.underlying24 rfl (by rw [HKS.out]; kernel_rfl) ?_)
    | (with_reducible refine wpList_load_row rfl 25 (.tmp 8) rfl (w.heap.size + 1) rfl 25 (bv nonce).toArray (0, 0) _ hgN2.out Try.underlying25 rfl (by rw [HNS.out]; kernel_rfl) ?_))
  refine hopen.mono ?_
  rintro e w3 ⟨A3, k3, c3, P3, x3, rfl, hp3, hr3, hb3⟩
  clear hopen
  have hpp := hp3.out
  rw [hS.out, openOf_seal] at hpp
  injection hpp with hpp1 hpp2
  subst hpp1 hpp2
  obtain rfl : k3 = n := hr3.len.symm.trans HL.out
  have hgK3 : Hid (w3.heap[w.heap.size]? = some (.cells (bv key).toArray 24 (0, 0))) := (hb3.block _ (by omega)).trans hgK2.out
  have hgN3 : Hid (w3.heap[w.heap.size + 1]? = some (.cells (bv nonce).toArray 25 (0, 0))) := (hb3.block _ hs2).trans hgN2.out
  have hbw3 := below_next hbw2 hbw2.size hb3
  have hs3 : w.heap.size + 1 < w3.heap.size := Nat.lt_of_lt_of_le hs2 hb3.size
  have hr23 := hr2.keep hb3
  have hcp := conv_bytes (P := Try.prog) Try.underlying26 Try.underlying5 Try.underlying9 hr3.byt k3 c3 hr3.len
  have hcq := conv_bytes (P := Try.prog) Try.underlying26 Try.underlying5 Try.underlying9 ((ha.below hbw3).up hbw3.size) k3 c HL.out
  have hopen := aopen_any w3 key nonce HK.out HN.out A2 S (k3 + 16) c2 hr23.byt hr23.len hr23.cap (by omega) G other q f ((hg.below hbw3).up hbw3.size) HQ.out hf (by omega)
  clear hgK2 hgN2 hb3 hs2 hbw2 hp3 hr2
  go_wp2_with (first
    | (with_reducible refine wpList_load_row rfl 24 (.tmp 7) rfl w.heap.size rfl 24 (bv key).toArray (0, 0) _ hgK3.out Try.underlying24 rfl (by rw [HKS.out]; kernel_rfl) ?_)
    | (with_reducible refine wpList_load_row rfl 25 (.tmp 8) rfl (w.heap.size + 1) rfl 25 (bv nonce).toArray (0, 0) _ hgN3.out Try.underlying25 rfl (by rw [HNS.out]; kernel_rfl) ?_))
  refine hopen.mono ?_
  rintro e w4 ⟨A4, k4, c4, P4, x4, rfl, hp4, hr4, hb4⟩
  clear hopen hcp hcq
  have hgK4 : Hid (w4.heap[w.heap.size]? = some (.cells (bv key).toArray 24 (0, 0))) := (hb4.block _ (by omega)).trans hgK3.out
  have hgN4 : Hid (w4.heap[w.heap.size + 1]? = some (.cells (bv nonce).toArray 25 (0, 0))) := (hb4.block _ hs3).trans hgN3.out
  have hbw4 := below_next hbw3 hbw3.size hb4
  have hs4 : w.heap.size + 1 < w4.heap.size := Nat.lt_of_lt_of_le hs3 hb4.size
  have hr24 := hr23.keep hb4
  have hopen := ropen_any w4 key nonce HK.out HN.out A2 S (k3 + 16) c2 hr24.byt hr24.len hr24.cap (by omega) G other q f ((hg.below hbw4).up hbw4.size) HQ.out (by omega)
  clear hgK3 hgN3 hb4 hs3 hbw3 hr23 hr3 hr4
  go_wp2_with (first
    | (with_reducible refine wpList_load_row rfl 24 (.tmp 7) rfl w.heap.size rfl 24 (bv key).toArray (0, 0) _ hgK4.out Try.underlying24 rfl (by rw [HKS.out]; kernel_rfl) ?_)
    | (with_reducible refine wpList_load_row rfl 25 (.tmp 8) rfl (w.heap.size + 1) rfl 25 (bv nonce).toArray (0, 0) _ hgN4.out Try.underlying25 rfl (by rw [HNS.out]; kernel_rfl) ?_))
  refine hopen.mono ?_
  rintro e w5 ⟨A5, k5, c5, P5, x5, rfl, hp5, hr5, hb5⟩
  clear hopen
  have hpp := hp4.out.trans hp5.out.symm
  injection hpp with hpp1 hpp2
  subst hpp1 hpp2
  have hgK5 : Hid (w5.heap[w.heap.size]? = some (.cells (bv key).toArray 24 (0, 0))) := (hb5.block _ (by omega)).trans hgK4.out
  have hgN5 : Hid (w5.heap[w.heap.size + 1]? = some (.cells (bv nonce).toArray 25 (0, 0))) := (hb5.block _ hs4).trans hgN4.out
  have hbw5 := below_next hbw4 hbw4.size hb5
  have hs5 : w.heap.size + 1 < w5.heap.size := Nat.lt_of_lt_of_le hs4 hb5.size
  have hr25 := hr24.keep hb5
  clear hgK4 hgN4 hb5 hs4 hbw4 hr24 hr5 hp4 hp5 hg HQ ha
  by_cases h0 : pos < 0
  · go_wp2
    go_ret
    exact ⟨rfl, hbw5⟩
  by_cases h1 : ((k3 : Int) + 16) ≤ pos
  · go_wp2
    go_ret
    exact ⟨rfl, hbw5⟩
  obtain ⟨a, rfl⟩ : ∃ a : Nat, pos = (a : Int) := ⟨pos.toNat, by omega⟩
  have hak : a < k3 + 16 := by omega
  go_wp2_with (at_builtin; refine wp_append_src _ rfl (.tmp 107) (.tmp 108) 26 rfl 5 Try.underlying26 Try.infoByte w5.heap.size (some ⟨w5.heap.size, 0, none⟩) 0 0 [] rfl (Res.none_lit w5 _ _ (Nat.le_refl _)) A2 (k3 + 16) c2 rfl _ S (hr25.byt.alloc (Nat.le_refl _) _) hr25.len (by omega) (by simp) ?_)
  intro A6 c6 w6 hr6 hb6'
  have hb6 := hb6' w5.heap.size w5 (Nat.le_refl _) ((Below.refl _ _).alloc (Nat.le_refl _) _)
  clear hb6'
  have hr6' : Res w6 w5.heap.size 5 A6 (k3 + 16) c6 S := by
    have h := hr6
    simpa using h
  obtain ⟨g, rfl⟩ := hr6'.some_ (by omega)
  have hSa : a < S.length := by rw [hr6'.len]; exact hak
  have hcell : w6.cell? ⟨g, a, none⟩ = some (.int .u8 ((S[a].toNat : Nat) : Int)) := by
    have h := cells_at hr6'.byt a (.int .u8 (S[a].toNat : Int)) (by rw [bv_at, List.getElem?_eq_getElem hSa]; rfl)
    rwa [addr_add, Nat.zero_add] at h
  have hfr := hr6'.free a
  have hge : w5.heap.size ≤ g := by
    rcases hr6'.2 with ⟨_, h⟩ | ⟨g', _, _, hv, hbg, _⟩
    · omega
    · injection hv with hv _ _
      injection hv with hv
      injection hv with hv _
      omega
  have hget : S[a]? = some S[a] := List.getElem?_eq_getElem hSa
  have hxl : S[a].toNat < 256 := UInt8.toNat_lt _
  obtain ⟨x, hx⟩ : ∃ x, x = S[a].toNat := ⟨_, rfl⟩
  rw [← hx] at hcell hxl
  have h7 := and7 bit
  obtain ⟨r, hr⟩ : ∃ r : Nat, bit % 8 = (r : Int) := ⟨(bit % 8).toNat, by omega⟩
  have hr8 : r < 8 := by omega
  rw [hr] at h7
  obtain ⟨y, hy, hy0, hy1⟩ : ∃ y : Nat, (2 : Int) ^ r % 256 = (y : Int) ∧ 0 < y ∧ y < 256 := by
    have h := (by decide : ∀ r : Fin 8, 0 < 2 ^ r.val ∧ 2 ^ r.val < 256) ⟨r, hr8⟩
    obtain ⟨Y, hY⟩ : ∃ Y : Nat, Y = 2 ^ r := ⟨_, rfl⟩
    simp only [← hY] at h
    refine ⟨Y, ?_, h.1, h.2⟩
    rw [show (2 : Int) ^ r = (Y : Int) by rw [hY]; simp]
    omega
  have e1 : bits .xor .u8 (x : Int) (y : Int) = ((x ^^^ y : Nat) : Int) := u8_xor_nat x y hxl hy1
  have e2 : x ^^^ y < 256 := Nat.xor_lt_two_pow (n := 8) hxl hy1
  have e3 := Lib.hid (xor_other x y hy0)
  obtain ⟨z, hz⟩ : ∃ z, z = x ^^^ y := ⟨_, rfl⟩
  rw [← hz] at e1 e2 e3
  have HNE : Hid (S[a]? ≠ some (UInt8.ofNat z)) := by
    show _ ≠ _
    rw [hget]
    intro h
    injection h with h
    have h4 := congrArg UInt8.toNat h
    rw [← hx, UInt8.toNat_ofNat', Nat.mod_eq_of_lt e2] at h4
    exact e3.out h4.symm
  clear hz hget hx
  go_upto_region 17 with fail
  have hr7 : Res (w6.setCell ⟨g, a, none⟩ (.int .u8 (z : Int))) w5.heap.size 5 (some ⟨g, 0, none⟩) (k3 + 16) c6 (S.set a (UInt8.ofNat z)) := hr6'.put a (UInt8.ofNat z) (z : Int) (by rw [UInt8.toNat_ofNat', Nat.mod_eq_of_lt e2])
  have hb7 : Below w5.heap.size w5 (w6.setCell ⟨g, a, none⟩ (.int .u8 (z : Int))) := hb6.setCell hge _
  generalize w6.setCell ⟨g, a, none⟩ (.int .u8 (z : Int)) = w7 at *
  obtain ⟨T, hT⟩ : ∃ T, T = S.set a (UInt8.ofNat z) := ⟨_, rfl⟩
  rw [← hT] at hr7
  have HT := vlt hT
  clear hT hr6 hr6' hcell hfr h7 hr hr8 hy hy0 hy1 e1 e2 e3 hxl hb6 hr25
  have hgK7 : Hid (w7.heap[w.heap.size]? = some (.cells (bv key).toArray 24 (0, 0))) := (hb7.block _ (by omega)).trans hgK5.out
  have hgN7 : Hid (w7.heap[w.heap.size + 1]? = some (.cells (bv nonce).toArray 25 (0, 0))) := (hb7.block _ hs5).trans hgN5.out
  have hbw7 := below_next hbw5 hbw5.size hb7
  have hs7 : w.heap.size + 1 < w7.heap.size := Nat.lt_of_lt_of_le hs5 hb7.size
  have hopen := aopen_any w7 key nonce HK.out HN.out (some ⟨g, 0, none⟩) T (k3 + 16) c6 hr7.byt hr7.len hr7.cap (by omega) D beside m d ((hb.below hbw7).up hbw7.size) HM.out hd (by omega)
  go_wp2_with (first
    | (with_reducible refine wpList_load_row rfl 24 (.tmp 7) rfl w.heap.size rfl 24 (bv key).toArray (0, 0) _ hgK7.out Try.underlying24 rfl (by rw [HKS.out]; kernel_rfl) ?_)
    | (with_reducible refine wpList_load_row rfl 25 (.tmp 8) rfl (w.heap.size + 1) rfl 25 (bv nonce).toArray (0, 0) _ hgN7.out Try.underlying25 rfl (by rw [HNS.out]; kernel_rfl) ?_))
  refine hopen.mono ?_
  rintro e w8 ⟨A8, k8, c8, P8, x8, rfl, hp8, hr8, hb8⟩
  clear hopen
  have hgK8 : Hid (w8.heap[w.heap.size]? = some (.cells (bv key).toArray 24 (0, 0))) := (hb8.block _ (by omega)).trans hgK7.out
  have hgN8 : Hid (w8.heap[w.heap.size + 1]? = some (.cells (bv nonce).toArray 25 (0, 0))) := (hb8.block _ hs7).trans hgN7.out
  have hbw8 := below_next hbw7 hbw7.size hb8
  have hs8 : w.heap.size + 1 < w8.heap.size := Nat.lt_of_lt_of_le hs7 hb8.size
  have hr78 := hr7.keep hb8
  have hopen := ropen_any w8 key nonce HK.out HN.out (some ⟨g, 0, none⟩) T (k3 + 16) c6 hr78.byt hr78.len hr78.cap (by omega) D beside m d ((hb.below hbw8).up hbw8.size) HM.out (by omega)
  go_wp2_with (first
    | (with_reducible refine wpList_load_row rfl 24 (.tmp 7) rfl w.heap.size rfl 24 (bv key).toArray (0, 0) _ hgK8.out Try.underlying24 rfl (by rw [HKS.out]; kernel_rfl) ?_)
    | (with_reducible refine wpList_load_row rfl 25 (.tmp 8) rfl (w.heap.size + 1) rfl 25 (bv nonce).toArray (0, 0) _ hgN8.out Try.underlying25 rfl (by rw [HNS.out]; kernel_rfl) ?_))
  refine hopen.mono ?_
  rintro e w9 ⟨A9, k9, c9, P9, x9, rfl, hp9, hr9, hb9⟩
  clear hopen
  have hpp := hp8.out.trans hp9.out.symm
  injection hpp with hpp1 hpp2
  subst hpp1 hpp2
  have hbw9 := below_next hbw8 hbw8.size hb9
  by_cases hak3 : a < k3
  · have hak3' : (a : Int) < (k3 : Int) := by omega
    clear HT HNE hp8 hp9 hr7 hr78 hr8 hr9
    go_wp2
    go_ret
    exact ⟨rfl, hbw9⟩
  · have hak3' : ¬ (a : Int) < (k3 : Int) := by omega
    have h8 := hp8.out
    rw [HT.out, hS.out, openOf_turned key nonce _ beside a (UInt8.ofNat z) (by rw [HL.out]; omega) (by rw [HL.out]; omega) (by rw [← hS.out]; exact HNE.out)] at h8
    injection h8 with h81 h82
    subst h81 h82
    clear HT HNE hp8 hp9 hr7 hr78 hr8 hr9
    go_wp2
    go_ret
    exact ⟨rfl, hbw9⟩
end Go.Proofs.Ytkeejkhapmcanaa
