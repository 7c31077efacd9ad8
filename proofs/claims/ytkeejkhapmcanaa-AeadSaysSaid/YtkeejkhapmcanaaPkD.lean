/-
  Words and contracts that other texts share, several in one text. No statement of the seat is proved here. Conditions: as each contract says.
  Contract of the document's own held. Conditions: none.
  Contract of the document's own Little. Conditions: the slice is shorter than 2^46 bytes.
  Contracts of the document's own answer for chapter 1, second part: FromBig, Turn, FromLittle, Xor. Conditions: the slices are shorter than 2^46 bytes.
  Contracts of the document's own answer for chapter 4, first part: left, Quarter, word. Conditions: the words are below 2^32; the turns are from 1 to 31; four bytes at least.
  Contract of the document's own Block of chapter 4. Conditions: a key of 32 bytes, a nonce of 12, a count below 2^32.
  Contract of the document's own Xor of chapter 4. Conditions: a key of 32 bytes, a nonce of 12, a count below 2^32; up to 300 bytes.
-/
import Derived.Test.YtkeejkhapmcanaaPkA
import Derived.Deep.RegionLaw
import Derived.Test.YtkeejkhapmcanaaPkB
namespace Go.Proofs.Ytkeejkhapmcanaa
open Go.RowKit

theorem held_any (n : Int) (w : World) : Calls Try.prog 42 #[.int .i64 n] w fun e w' => e = .returned (.int .i64 (wd n)) ∧ w = w' := by
  go_enter Try.func42, Try.ntmps42
  go_wp2
  all_goals go_ret
  all_goals exact ⟨by unfold wd; first | go_num | (congr 2; omega), rfl⟩

end Go.Proofs.Ytkeejkhapmcanaa
namespace Go.Proofs.Ytkeejkhapmcanaa
open Go.RowKit

theorem refLittle_any (A : Option Addr) (l : List UInt8) (n c v : Nat) (k : Int) (w : World) (ha : Byt w w.heap.size A l) (hl : l.length = n) (hn : n ≤ 70368744177664) (hv : v < 18446744073709551616) :
    Calls Try.prog 28 #[.slice A n c, .int .u64 (v : Int), .int .i64 k] w fun e w' => ∃ A' c', e = .returned (.slice A' (n + wd k) c') ∧ Res w' w.heap.size 5 A' (n + wd k) c' (l ++ le v (wd k)) ∧ Below w.heap.size w w' := by
  have hw := wd_le k
  generalize hm : wd k = m at *
  have HM := Lib.hid hm
  have HL := Lib.hid hl
  clear hm hl
  have HV := Lib.hid hv
  clear hv
  go_enter Try.func28, Try.ntmps28
  go_wp2_with (at_builtin; refine wp_append_src _ rfl (.tmp 9) (.tmp 10) 26 rfl 5 Try.underlying26 Try.infoByte w.heap.size (some ⟨w.heap.size, 0, none⟩) 0 0 [] rfl (Res.none_lit w _ _ (Nat.le_refl _)) A n c rfl w.heap.size l (ha.alloc (Nat.le_refl _) _) HL.out (by omega) (by simp) ?_)
  intro A1 c1 w1 hr1 hb1'
  have hb1 := hb1' w.heap.size w (Nat.le_refl _) ((Below.refl _ _).alloc (Nat.le_refl _) _)
  clear hb1'
  have HR := Lib.hid hr1
  clear hr1
  go_wp2_with fail
  go_loopw [7, 8] (fun s i wr => ∃ (k' : Nat) (A2 : Option Addr) (c2 : Nat), k' ≤ m ∧ i = .int .i64 (k' : Int) ∧ s = .slice A2 (n + k') c2 ∧ Res wr w.heap.size 5 A2 (n + k') c2 (l ++ le v k') ∧ Below w.heap.size w wr)
    (fun _ i _ => m - (intOf i).toNat)
  case atStart => exact ⟨0, A1, c1, Nat.zero_le _, rfl, rfl, by simpa [le] using HR.out, hb1⟩
  case round =>
    obtain ⟨k', A2, c2, hk', rfl, rfl, hres, hbel⟩ := hrel
    by_cases h0 : k' < m
    · go_wp2_with fail
      refine (held_any _ _).mono ?_
      rintro e w' ⟨rfl, rfl⟩
      rw [HM.out]
      go_wp2_with (at_builtin; refine wp_append_bytes _ rfl (.tmp 18) (.tmp 25) 26 rfl 5 Try.underlying26 Try.infoByte w.heap.size A2 (n + k') c2 _ rfl (hres.alloc _) ⟨wr.heap.size, 0, none⟩ 1 1 rfl [UInt8.ofNat (v / 2 ^ (8 * k'))] rfl (new_byte _ _ _ _ (byte_of v (8 * k'))) (by omega) (by have := hbel.size; simp; omega) ?_)
      intro A3 c3 w3 hres3 hb3
      have hbel3 := hb3 w.heap.size w (Nat.le_refl _) (hbel.alloc (by have := hbel.size; omega) _)
      clear hb3 hres hbel
      go_wp2
      go_roundw
      case rel => exact ⟨k' + 1, A3, c3, by omega, by go_num, rfl, by rw [le]; exact hres3, hbel3⟩
      case measure => simp [intOf]; omega
    · obtain rfl : k' = m := by omega
      go_wp2_with fail
      refine (held_any _ _).mono ?_
      rintro e w' ⟨rfl, rfl⟩
      rw [HM.out]
      go_wp2
      go_ret
      exact ⟨_, _, rfl, hres, hbel⟩
end Go.Proofs.Ytkeejkhapmcanaa
namespace Go.Proofs.Ytkeejkhapmcanaa
open Go.RowKit

theorem refFromBig_ok (A : Option Addr) (l : List UInt8) (n c : Nat) (w : World) (ha : Byt w w.heap.size A l) (hl : l.length = n) (h8 : n ≤ 8) :
    Calls Try.prog 53 #[.slice A n c] w fun e w' => e = .returned (.tuple #[.int .u64 (bn l : Int), .bool true]) ∧ w = w' := by
  have HL := Lib.hid hl
  clear hl
  go_enter Try.func53, Try.ntmps53
  go_wp2
  go_loop [4, 5] (fun t i => ∃ k V : Nat, k ≤ n ∧ i = .int .i64 (k : Int) ∧ t = .int .u64 (V : Int) ∧ V = bn (l.take k)) (fun _ i => n - (intOf i).toNat)
  case atStart => exact ⟨0, 0, Nat.zero_le _, rfl, rfl, by simp [bn]⟩
  case round =>
    obtain ⟨k, V, hk, rfl, rfl, hV⟩ := hrel
    have HV := Lib.hid hV
    by_cases hlt : k < n
    · have hb : V ≤ 72057594037927935 := by
        have h1 := bn_lt k (l.take k) (by rw [List.length_take, HL.out]; omega)
        have h2 := pow_le8 k (by omega)
        omega
      clear hV
      obtain ⟨g, o, x, rfl, hg, hx, hcell, hget⟩ := ha.at_ (k := k) (by rw [HL.out]; exact hlt)
      go_wp2
      exact ⟨⟨k + 1, V * 256 + x, by omega, by go_num, by rw [or_low V x hb hx], by rw [take_at hget.out, bn_snoc, ← HV.out]; simp [Nat.mod_eq_of_lt hx]⟩, by simp [intOf]; omega⟩
    · obtain rfl : k = n := by omega
      clear hV
      go_wp2
      go_ret2
      have e : V = bn l := by rw [HV.out, List.take_of_length_le (by rw [HL.out]; exact Nat.le_refl _)]
      rw [e]
      exact ⟨rfl, rfl⟩

theorem refFromBig_no (A : Option Addr) (n c : Nat) (w : World) (h8 : 8 < n) :
    Calls Try.prog 53 #[.slice A n c] w fun e w' => e = .returned (.tuple #[.int .u64 0, .bool false]) ∧ w = w' := by
  go_enter Try.func53, Try.ntmps53
  go_wp2
  go_ret2
  exact ⟨rfl, rfl⟩

theorem drop_at {l : List UInt8} {k : Nat} {b : UInt8} (h : l[k]? = some b) : l.drop k = b :: l.drop (k + 1) := by
  obtain ⟨hk, rfl⟩ := List.getElem?_eq_some_iff.1 h
  exact List.drop_eq_getElem_cons hk

theorem refTurn_any (A : Option Addr) (l : List UInt8) (n c : Nat) (w : World) (ha : Byt w w.heap.size A l) (hl : l.length = n) (hn : n ≤ 70368744177664) :
    Calls Try.prog 54 #[.slice A n c] w fun e w' => ∃ A' c', e = .returned (.slice A' n c') ∧ Res w' w.heap.size 5 A' n c' l.reverse ∧ Below w.heap.size w w' := by
  have HL := Lib.hid hl
  clear hl
  go_enter Try.func54, Try.ntmps54
  go_wp2
  go_loopw [3, 4] (fun s i wr => ∃ (k n2 : Nat) (A2 : Option Addr) (c2 : Nat), k ≤ n ∧ n2 + k = n ∧ i = .int .i64 ((k : Int) - 1) ∧ s = .slice A2 n2 c2 ∧ Res wr w.heap.size 5 A2 n2 c2 (l.drop k).reverse ∧ Below w.heap.size w wr)
    (fun _ i _ => (intOf i + 1).toNat)
  case atStart => exact ⟨n, 0, none, 0, Nat.le_refl _, by omega, rfl, rfl, by rw [List.drop_of_length_le (by rw [HL.out]; exact Nat.le_refl _)]; exact World.ownsRow_nil _ _ _ _, Below.refl _ _⟩
  case round =>
    obtain ⟨k', n2, A2, c2, hk', hn2, rfl, rfl, hres, hbel⟩ := hrel
    have HN := Lib.hid hn2
    have hn3 : n2 ≤ n := by omega
    clear hn2
    by_cases h0 : 0 < k'
    · obtain ⟨k, rfl⟩ : ∃ k, k' = k + 1 := ⟨k' - 1, by omega⟩
      obtain ⟨g, o, x, rfl, hg, hx, hcell, hget⟩ := (ha.below hbel).at_ (k := k) (by rw [HL.out]; omega)
      go_wp2_with (at_builtin; refine wp_append_bytes _ rfl (.tmp 12) (.tmp 17) 26 rfl 5 Try.underlying26 Try.infoByte w.heap.size A2 n2 c2 _ rfl (hres.alloc _) ⟨wr.heap.size, 0, none⟩ 1 1 rfl [UInt8.ofNat x] rfl (new_byte _ _ _ _ (by simp [Nat.mod_eq_of_lt hx])) (by omega) (by have := hbel.size; simp; omega) ?_)
      intro A3 c3 w3 hres3 hb3
      have hbel3 := hb3 w.heap.size w (Nat.le_refl _) (hbel.alloc (by have := hbel.size; omega) _)
      clear hb3 hres hbel
      go_wp2
      go_roundw
      case rel => exact ⟨k, n2 + 1, A3, c3, by omega, by have := HN.out; omega, by go_num, rfl, by rw [drop_at hget.out, List.reverse_cons]; exact hres3, hbel3⟩
      case measure => simp [intOf]
    · obtain rfl : k' = 0 := by omega
      go_wp2
      go_ret
      have e1 : n2 = n := by have := HN.out; omega
      subst e1
      exact ⟨_, _, rfl, hres, hbel⟩

theorem refFromLittle_ok (A : Option Addr) (l : List UInt8) (n c : Nat) (w : World) (ha : Byt w w.heap.size A l) (hl : l.length = n) (h8 : n ≤ 8) :
    Calls Try.prog 40 #[.slice A n c] w fun e w' => e = .returned (.tuple #[.int .u64 (ln l : Int), .bool true]) ∧ Below w.heap.size w w' := by
  have HL := Lib.hid hl
  clear hl
  go_enter Try.func40, Try.ntmps40
  go_wp2_with fail
  refine (refTurn_any A l n c _ ha HL.out (by omega)).mono ?_
  rintro e w1 ⟨A1, c1, rfl, hr1, hb1⟩
  go_wp2_with fail
  refine (refFromBig_ok A1 l.reverse n c1 _ hr1.byt hr1.len h8).mono ?_
  rintro e w' ⟨rfl, rfl⟩
  rw [← ln_rev]
  go_wp2
  go_ret2
  exact ⟨rfl, hb1⟩

theorem refFromLittle_no (A : Option Addr) (l : List UInt8) (n c : Nat) (w : World) (ha : Byt w w.heap.size A l) (hl : l.length = n) (hn : n ≤ 70368744177664) (h8 : 8 < n) :
    Calls Try.prog 40 #[.slice A n c] w fun e w' => e = .returned (.tuple #[.int .u64 0, .bool false]) ∧ Below w.heap.size w w' := by
  have HL := Lib.hid hl
  clear hl
  go_enter Try.func40, Try.ntmps40
  go_wp2_with fail
  refine (refTurn_any A l n c _ ha HL.out (by omega)).mono ?_
  rintro e w1 ⟨A1, c1, rfl, hr1, hb1⟩
  go_wp2_with fail
  refine (refFromBig_no A1 n c1 _ h8).mono ?_
  rintro e w' ⟨rfl, rfl⟩
  go_wp2
  go_ret2
  exact ⟨rfl, hb1⟩

theorem refXor_core (A D : Option Addr) (a b : List UInt8) (n p c d m : Nat) (w : World) (ha : Byt w w.heap.size A a) (hb : Byt w w.heap.size D b) (hl : a.length = n) (hl2 : b.length = p) (hn : n ≤ 70368744177664) (_hp : p ≤ 70368744177664)
    (hm : (m = n ∧ n ≤ p) ∨ (m = p ∧ p < n)) :
    Calls Try.prog 25 #[.slice A n c, .slice D p d] w fun e w' => ∃ A' c', e = .returned (.slice A' m c') ∧ Res w' w.heap.size 5 A' m c' (xr a b) ∧ Below w.heap.size w w' := by
  have HL := Lib.hid hl
  have HL2 := Lib.hid hl2
  have HX : Hid ((xr a b).length = m) := show _ = _ by rw [xr_len, hl, hl2]; omega
  have hmn : m ≤ n := by omega
  have hmp : m ≤ p := by omega
  have hend : n ≤ m ∨ p ≤ m := by omega
  clear hl hl2 hm
  go_enter Try.func25, Try.ntmps25
  go_wp2
  go_loopw [5, 6] (fun s i wr => ∃ (k : Nat) (A2 : Option Addr) (c2 : Nat), k ≤ m ∧ i = .int .i64 (k : Int) ∧ s = .slice A2 k c2 ∧ Res wr w.heap.size 5 A2 k c2 ((xr a b).take k) ∧ Below w.heap.size w wr) (fun _ i _ => m - (intOf i).toNat)
  case atStart => exact ⟨0, none, 0, Nat.zero_le _, rfl, rfl, World.ownsRow_nil _ _ _ _, Below.refl _ _⟩
  case round =>
    obtain ⟨k, A2, c2, hk, rfl, rfl, hres, hbel⟩ := hrel
    by_cases hlt : k < m
    · obtain ⟨g, o, x, rfl, hg, hx, hcell, hget⟩ := (ha.below hbel).at_ (k := k) (by rw [HL.out]; omega)
      obtain ⟨g2, o2, y, rfl, hg2, hy, hcell2, hget2⟩ := (hb.below hbel).at_ (k := k) (by rw [HL2.out]; omega)
      have h1 : k < n := by omega
      have h2 : k < p := by omega
      clear hend
      go_wp2
      go_region_law ((refine step_append_bytes _ rfl (.tmp 19) (.tmp 29) 26 rfl 5 Try.underlying26 Try.infoByte w.heap.size A2 k c2 ((xr a b).take k) (by simp [Act.eval]) (by exact (hres.alloc _).drew) ⟨wr.heap.size, 0, none⟩ 1 1 (by simp [Act.eval]) [UInt8.ofNat x ^^^ UInt8.ofNat y] rfl (new_byted wr _ _ _ (xor_cast x y hx hy)) (by omega) (by have := hbel.size; simp; omega) ?_; intro A3 c3 w3 hres3 hb3))
      all_goals
        have hbel3 := hb3 w.heap.size w (Nat.le_refl _) ((hbel.alloc (by have := hbel.size; omega) _).drew)
        clear hb3 hres hbel
        go_wp2
        go_roundw
        case rel => exact ⟨k + 1, A3, c3, by omega, by go_num, rfl, by rw [take_at (xr_at a b k x y hget.out hget2.out)]; exact hres3, hbel3⟩
        case measure => simp [intOf]; omega
    · obtain rfl : k = m := by omega
      have h3 := hres
      rw [List.take_of_length_le (by rw [HX.out]; exact Nat.le_refl _)] at h3
      have H3 := Lib.hid h3
      clear h3 hres
      by_cases h1 : k < n
      · have h2 : ¬ k < p := by omega
        clear hend
        go_wp2
        go_ret
        exact ⟨_, _, rfl, H3.out, hbel⟩
      · clear hend
        go_wp2
        go_ret
        exact ⟨_, _, rfl, H3.out, hbel⟩
end Go.Proofs.Ytkeejkhapmcanaa
namespace Go.Proofs.Ytkeejkhapmcanaa
open Go.RowKit

theorem left_any (x s : Nat) (w : World) (hx : x < 4294967296) (h1 : 1 ≤ s) (hs : s ≤ 31) :
    Calls Try.prog 41 #[.int .u32 (x : Int), .int .u64 (s : Int)] w fun e w' => ∃ y : Nat, e = .returned (.int .u32 (y : Int)) ∧ Hid (y = rl x s) ∧ y < 4294967296 ∧ w = w' := by
  have e1 : ((32 : Int) - (s : Int)) = ((32 - s : Nat) : Int) := by omega
  have e2 : ((32 : Int) - (s : Int)).toNat = 32 - s := by omega
  go_enter Try.func41, Try.ntmps41
  go_wp2
  go_ret
  exact ⟨rl x s, ret_u32 (rl_int x s hx), rfl, rl_lt _ _ hx, rfl⟩
theorem left16 (x : Nat) (w : World) (hx : x < 4294967296) :
    Calls Try.prog 41 #[.int .u32 (x : Int), .int .u64 16] w fun e w' => ∃ y : Nat, e = .returned (.int .u32 (y : Int)) ∧ Hid (y = rl x 16) ∧ y < 4294967296 ∧ w = w' := left_any x 16 w hx (by decide) (by decide)
theorem left12 (x : Nat) (w : World) (hx : x < 4294967296) :
    Calls Try.prog 41 #[.int .u32 (x : Int), .int .u64 12] w fun e w' => ∃ y : Nat, e = .returned (.int .u32 (y : Int)) ∧ Hid (y = rl x 12) ∧ y < 4294967296 ∧ w = w' := left_any x 12 w hx (by decide) (by decide)
theorem left8 (x : Nat) (w : World) (hx : x < 4294967296) :
    Calls Try.prog 41 #[.int .u32 (x : Int), .int .u64 8] w fun e w' => ∃ y : Nat, e = .returned (.int .u32 (y : Int)) ∧ Hid (y = rl x 8) ∧ y < 4294967296 ∧ w = w' := left_any x 8 w hx (by decide) (by decide)
theorem left7 (x : Nat) (w : World) (hx : x < 4294967296) :
    Calls Try.prog 41 #[.int .u32 (x : Int), .int .u64 7] w fun e w' => ∃ y : Nat, e = .returned (.int .u32 (y : Int)) ∧ Hid (y = rl x 7) ∧ y < 4294967296 ∧ w = w' := left_any x 7 w hx (by decide) (by decide)

theorem refQuarter_any (a b c d : Nat) (w : World) (hb : b < 4294967296) (hd : d < 4294967296) :
    Calls Try.prog 27 #[.int .u32 (a : Int), .int .u32 (b : Int), .int .u32 (c : Int), .int .u32 (d : Int)] w fun e w' =>
      ∃ p q r s : Nat, e = .returned (.tuple #[.int .u32 (p : Int), .int .u32 (q : Int), .int .u32 (r : Int), .int .u32 (s : Int)]) ∧ Hid (qr a b c d = (p, q, r, s)) ∧ (p < 4294967296 ∧ q < 4294967296 ∧ r < 4294967296 ∧ s < 4294967296) ∧ w = w' := by
  obtain ⟨a1, ea1, ha1, la1⟩ := sum_ex a b
  obtain ⟨x1, ex1, hx1, lx1⟩ := xor_ex d a1 hd la1
  go_enter Try.func27, Try.ntmps27
  go_wp2_with fail
  refine (left16 x1 _ lx1).mono ?_
  rintro e w' ⟨d1, rfl, hd1, ld1, rfl⟩
  obtain ⟨c1, ec1, hc1, lc1⟩ := sum_ex c d1
  obtain ⟨x2, ex2, hx2, lx2⟩ := xor_ex b c1 hb lc1
  go_wp2_with fail
  refine (left12 x2 _ lx2).mono ?_
  rintro e w' ⟨b1, rfl, hb1, lb1, rfl⟩
  obtain ⟨a2, ea2, ha2, la2⟩ := sum_ex a1 b1
  obtain ⟨x3, ex3, hx3, lx3⟩ := xor_ex d1 a2 ld1 la2
  go_wp2_with fail
  refine (left8 x3 _ lx3).mono ?_
  rintro e w' ⟨d2, rfl, hd2, ld2, rfl⟩
  obtain ⟨c2, ec2, hc2, lc2⟩ := sum_ex c1 d2
  obtain ⟨x4, ex4, hx4, lx4⟩ := xor_ex b1 c2 lb1 lc2
  go_wp2_with fail
  refine (left7 x4 _ lx4).mono ?_
  rintro e w' ⟨b2, rfl, hb2, lb2, rfl⟩
  go_wp2
  (try simp only [Exit.inBlock, Exit.then])
  refine bodyPost_ret (results_tmp4 rfl _ _ _) rfl ?_
  refine ⟨a2, b2, c2, d2, rfl, ?_, ⟨la2, lb2, lc2, ld2⟩, rfl⟩
  exact qr_eq (qh_eq _ _ _ _ _ _ a1 d1 c1 b1 ha1.out (by rw [hd1.out, hx1.out]) hc1.out (by rw [hb1.out, hx2.out])) (qh_eq _ _ _ _ _ _ a2 d2 c2 b2 ha2.out (by rw [hd2.out, hx3.out]) hc2.out (by rw [hb2.out, hx4.out]))

theorem refWord_any (A : Option Addr) (l : List UInt8) (n c : Nat) (w : World) (ha : Byt w w.heap.size A l) (hl : l.length = n) (h4 : 4 ≤ n) (hc : n ≤ c) :
    Calls Try.prog 26 #[.slice A n c] w fun e w' => ∃ v : Nat, e = .returned (.int .u32 (v : Int)) ∧ Vlt (v = ln (l.take 4)) ∧ v < 4294967296 ∧ Below w.heap.size w w' := by
  have hcut := run_cut_h Try.underlying26 Try.sizeByte A n c 4 4 rfl (by omega)
  have hf := refFromLittle_ok A (l.take 4) 4 c w (ha.take 4) (by rw [List.length_take]; omega) (by decide)
  have hlt := ln4_lt l
  obtain ⟨v, hv⟩ : ∃ v, v = ln (l.take 4) := ⟨_, rfl⟩
  rw [← hv] at hf hlt
  have HV := vlt hv
  clear hv hl
  go_enter Try.func26, Try.ntmps26
  go_wp2_with fail
  refine hf.mono ?_
  rintro e w1 ⟨rfl, hb1⟩
  clear hf
  go_wp2
  go_ret
  refine ⟨v, ?_, HV, hlt, hb1⟩
  first
    | rfl
    | (show Ending.returned (.int .u32 ((v : Int) % 4294967296)) = _
       rw [show (v : Int) % 4294967296 = (v : Int) by omega])
end Go.Proofs.Ytkeejkhapmcanaa
namespace Go.Proofs.Ytkeejkhapmcanaa
open Go.RowKit

def cs4 : List Nat := [1634760805, 857760878, 2036477234, 1797285236]
def s16 : List Nat := uptoW 16 cs4
theorem built_s : Try.prog.built 51 [(0, .int .u32 1634760805), (1, .int .u32 857760878), (2, .int .u32 2036477234), (3, .int .u32 1797285236)] = some (u32v s16).toArray := by kernel_rfl
theorem built_blk : Try.prog.built 40 [] = some (bv z64).toArray := by kernel_rfl
theorem ln_le4 (v : Nat) (hv : v < 4294967296) : ln (le v 4) = v := by
  have e : ∀ n, ln (le v n) = v % 256 ^ n := by
    intro n
    induction n with
    | zero => simp [le, ln, Nat.mod_one]
    | succ n ih =>
      have e0 : 2 ^ (8 * n) = 256 ^ n := by rw [Nat.pow_mul]
      have e1 : 256 ^ (n + 1) = 256 ^ n * 256 := Nat.pow_succ 256 n
      have e2 : (UInt8.ofNat (v / 256 ^ n)).toNat = v / 256 ^ n % 256 := UInt8.toNat_ofNat'
      rw [le, ln_snoc, ih, le_len, e0, e1, e2, Nat.mod_mul, Nat.mul_comm (256 ^ n)]
  rw [e, show (256 : Nat) ^ 4 = 4294967296 from rfl]
  exact Nat.mod_eq_of_lt hv
theorem lw_ahead : lw aheadB 4 = cs4 := by decide +kernel
theorem first_parts (key nonce : List UInt8) (count : Nat) (hk : key.length = 32) (hc : count < 4294967296) : firstOf key count nonce = cs4 ++ lw key 8 ++ [count] ++ lw nonce 3 := by
  have h1 := lw_app (aheadB ++ key ++ le count 4) nonce 13 (by simp [aheadB, le_len, hk]) 3
  have h2 := lw_app (aheadB ++ key) (le count 4) 12 (by simp [aheadB, hk]) 1
  have h3 := lw_app aheadB key 4 (by simp [aheadB]) 8
  have h4 : lw (le count 4) 1 = [count] := by
    show [] ++ [ln (((le count 4).drop (4 * 0)).take 4)] = [count]
    rw [Nat.mul_zero, List.drop_zero, List.take_of_length_le (by rw [le_len]; decide), ln_le4 count hc, List.nil_append]
  rw [firstOf, rowOf, h1, h2, h3, lw_ahead, h4]
theorem byt_row_at {w : World} {g k : Nat} {l : List UInt8} {t : TypeId} (hg : w.heap[g]? = some (.cells (bv l).toArray t (0, 0))) : Byt w w.heap.size (some ⟨g, k, none⟩) (l.drop k) := by
  refine .inr ⟨g, k, rfl, (Array.getElem?_eq_some_iff.1 hg).1, fun j b hj => ?_⟩
  rw [cell_of_row _ _ _ _ _ _ hg]
  rw [List.getElem?_drop] at hj
  simp only [List.getElem?_toArray, bv_at, hj]; rfl
theorem refLittle4n (v : Nat) (w : World) (hv : v < 4294967296) :
    Calls Try.prog 28 #[.slice none 0 0, .int .u64 (v : Int), .int .i64 4] w fun e w' => ∃ A c, e = .returned (.slice A 4 c) ∧ Res w' w.heap.size 5 A 4 c (le v 4) ∧ Below w.heap.size w w' := by
  have h := refLittle_any none [] 0 0 v 4 w Byt.none_ rfl (by decide) (by omega)
  exact h
/-- The next word is laid. -/
theorem wrow_next {w : World} {g k v : Nat} {l : List Nat} {t : TypeId} (hl : l.length = k) (hk : k < 16) (hg : w.heap[g]? = some (.cells (u32v (uptoW 16 l)).toArray t (0, 0))) :
    (w.setCell ⟨g, k, none⟩ (.int .u32 (v : Int))).heap[g]? = some (.cells (u32v (uptoW 16 (l ++ [v]))).toArray t (0, 0)) := by
  have h1 := heap_setCell_same w g k _ _ (.int .u32 (v : Int)) hg
  refine h1.trans ?_
  have h2 := uptoW_set 16 l v (by omega)
  rw [hl] at h2
  rw [← h2, ← u32v_set]
  simp
theorem row_cell {w : World} {g k : Nat} {l : List Nat} {t : TypeId} (hl : l.length = k) (hk : k < 16) (hg : w.heap[g]? = some (.cells (u32v (uptoW 16 l)).toArray t (0, 0))) : w.cell? ⟨g, k, none⟩ = some (.int .u32 0) := by
  have hx := uptoW_at 16 l (by omega)
  rw [hl] at hx
  rw [cell_of_row _ _ _ _ _ _ hg]
  simp [u32v_at, hx]

set_option maxRecDepth 100000 in
set_option maxHeartbeats 1000000 in
theorem refBlock_any (w : World) (key nonce : List UInt8) (count : Nat) (hk : key.length = 32) (hn : nonce.length = 12) (hc : count < 4294967296) :
    Calls Try.prog 17 #[.agg (bv key).toArray, .int .u32 (count : Int), .agg (bv nonce).toArray] w fun e w' => e = .returned (.agg (bv (blockOf key count nonce)).toArray) ∧ Below w.heap.size w w' := by
  have hz := zero_w16
  have hzb := zero_b64
  have HK := Lib.hid hk
  have HN := Lib.hid hn
  have HZS := Lib.hid (show (u32v z16w).toArray.size = 16 from rfl)
  have HS16 := Lib.hid (show (u32v s16).toArray.size = 16 from rfl)
  have HFP := vlt (first_parts key nonce count hk hc)
  obtain ⟨W, hW, hgK, hgN, hgZ, hbW, hsW⟩ := three_new w (bv key).toArray (bv nonce).toArray (bv z64).toArray 24 25 40
  have HW := Lib.hid hW
  clear hW hk hn
  have hsW0 : w.heap.size < W.heap.size := by have := hsW.out; omega
  have hsW1 : w.heap.size + 1 < W.heap.size := by have := hsW.out; omega
  have hsW2 : w.heap.size + 2 < W.heap.size := by have := hsW.out; omega
  go_enter Try.func17, Try.ntmps17
  go_upto_region 1 with fail
  rw [HW.out]
  go_upto_region 2 with (first
    | (with_reducible refine wpList_build_to rfl 51 _ rfl [(0, .int .u32 1634760805), (1, .int .u32 857760878), (2, .int .u32 2036477234), (3, .int .u32 1797285236)] (by rfl) _ built_s ?_)
    | ((with_reducible refine wpList_store_row rfl 51 (.tmp 7) (.tmp 19) rfl W.heap.size (u32v s16).toArray rfl rfl 51 _ (heap_alloc_new _ _) (by rw [HS16.out]; kernel_rfl) (by rw [HS16.out]; exact HZS.out) (all_oneCell_toArray (u32v_one _)) ?_); rw [World.setRow_alloc_new]))
  have hg7 : Hid ((W.alloc (.cells (u32v s16).toArray 51)).heap[W.heap.size]? = some (.cells (u32v (uptoW 16 (cs4 ++ lw key 0))).toArray 51 (0, 0))) := by
    show _ = _
    rw [show uptoW 16 (cs4 ++ lw key 0) = s16 from rfl]; exact heap_alloc_new _ _
  have hb7 : Below W.heap.size W (W.alloc (.cells (u32v s16).toArray 51)) := (Below.refl _ _).alloc (Nat.le_refl _) _
  generalize W.alloc (.cells (u32v s16).toArray 51) = w2 at *
  go_wp2
  go_loopw [8] (fun i wr => ∃ k : Nat, k ≤ 8 ∧ i = .int .i64 (k : Int) ∧ Hid (wr.heap[W.heap.size]? = some (.cells (u32v (uptoW 16 (cs4 ++ lw key k))).toArray 51 (0, 0))) ∧ Below W.heap.size W wr) (fun i _ => 8 - (intOf i).toNat)
  case atStart => exact ⟨0, by omega, rfl, hg7, hb7⟩
  case round =>
    clear hg7 hb7
    obtain ⟨k, hk, rfl, hg, hb⟩ := hrel
    by_cases hlt : k < 8
    · have hcut := cut_l Try.underlying24 Try.sizeByte w.heap.size 0 (4 * k) (4 * (k : Int)) (by omega) (by omega)
      rw [Nat.zero_add] at hcut
      have hgKr : wr.heap[w.heap.size]? = some (.cells (bv key).toArray 24 (0, 0)) := (hb.block _ hsW0).trans hgK.out
      have hword := refWord_any (some ⟨w.heap.size, 4 * k, none⟩) (key.drop (4 * k)) (32 - 4 * k) (32 - 4 * k) wr (byt_row_at hgKr) (by rw [List.length_drop, HK.out]) (by omega) (Nat.le_refl _)
      clear hgKr
      go_wp2_with fail
      refine hword.mono ?_
      rintro e w5 ⟨v, rfl, hv, lv, hb5⟩
      clear hword hcut
      have hl4 : (cs4 ++ lw key k).length = 4 + k := by rw [List.length_append, lw_len]; rfl
      have hg5 : Hid (w5.heap[W.heap.size]? = some (.cells (u32v (uptoW 16 (cs4 ++ lw key k))).toArray 51 (0, 0))) := (hb5.block _ (Array.getElem?_eq_some_iff.1 hg.out).1).trans hg.out
      have hcl := row_cell hl4 (by omega) hg5.out
      have hf : w5.frozen? ⟨W.heap.size, 4 + k, none⟩ = false := frozen_of_row _ _ _ _ _ hg5.out
      have hnx : Hid ((w5.setCell ⟨W.heap.size, 4 + k, none⟩ (.int .u32 (v : Int))).heap[W.heap.size]? = some (.cells (u32v (uptoW 16 (cs4 ++ lw key (k + 1)))).toArray 51 (0, 0))) := by
        have h1 := wrow_next (v := v) hl4 (by omega) hg5.out
        rw [hv.out, List.append_assoc] at h1
        rw [lw, hv.out]
        exact h1
      have hb6 : Below W.heap.size W (w5.setCell ⟨W.heap.size, 4 + k, none⟩ (.int .u32 (v : Int))) := (below_next hb hb.size hb5).setCell (Nat.le_refl _) _
      clear hl4
      go_wp2
      go_roundw
      case rel => exact ⟨k + 1, by omega, by go_num, hnx, hb6⟩
      case measure => simp [intOf]; omega
    · have HK8 := Lib.hid (show k = 8 by omega)
      have hg1 : Hid (wr.heap[W.heap.size]? = some (.cells (u32v (uptoW 16 (cs4 ++ lw key 8))).toArray 51 (0, 0))) := by
        have h1 := hg.out
        rw [HK8.out] at h1
        exact h1
      have hl12 : (cs4 ++ lw key 8).length = 12 := by rw [List.length_append, lw_len]; rfl
      have hcl := row_cell hl12 (by omega) hg1.out
      have hf : wr.frozen? ⟨W.heap.size, 12, none⟩ = false := frozen_of_row _ _ _ _ _ hg1.out
      have hnx : Hid ((wr.setCell ⟨W.heap.size, 12, none⟩ (.int .u32 (count : Int))).heap[W.heap.size]? = some (.cells (u32v (uptoW 16 (cs4 ++ lw key 8 ++ [count] ++ lw nonce 0))).toArray 51 (0, 0))) := by
        have h1 := wrow_next (v := count) hl12 (by omega) hg1.out
        rw [lw, List.append_nil]
        exact h1
      have hb3 : Below W.heap.size W (wr.setCell ⟨W.heap.size, 12, none⟩ (.int .u32 (count : Int))) := hb.setCell (Nat.le_refl _) _
      clear hl12 hg hg1 hb HK8
      go_upto_region 7 with fail
      generalize wr.setCell ⟨W.heap.size, 12, none⟩ (.int .u32 (count : Int)) = w3 at *
      clear hcl hf
      generalize decide ((k : Int) < 8) = d1
      go_wp2
      go_loopw [9] (fun i wr => ∃ k : Nat, k ≤ 3 ∧ i = .int .i64 (k : Int) ∧ Hid (wr.heap[W.heap.size]? = some (.cells (u32v (uptoW 16 (cs4 ++ lw key 8 ++ [count] ++ lw nonce k))).toArray 51 (0, 0))) ∧ Below W.heap.size W wr) (fun i _ => 3 - (intOf i).toNat)
      case atStart => exact ⟨0, by omega, rfl, hnx, hb3⟩
      case round =>
        clear hnx hb3 hk hlt
        obtain ⟨k2, hk, rfl, hg, hb⟩ := hrel
        by_cases hlt : k2 < 3
        · have hcut := cut_l Try.underlying25 Try.sizeByte (w.heap.size + 1) 0 (4 * k2) (4 * (k2 : Int)) (by omega) (by omega)
          rw [Nat.zero_add] at hcut
          have hgNr : wr.heap[w.heap.size + 1]? = some (.cells (bv nonce).toArray 25 (0, 0)) := (hb.block _ hsW1).trans hgN.out
          have hword := refWord_any (some ⟨w.heap.size + 1, 4 * k2, none⟩) (nonce.drop (4 * k2)) (12 - 4 * k2) (12 - 4 * k2) wr (byt_row_at hgNr) (by rw [List.length_drop, HN.out]) (by omega) (Nat.le_refl _)
          clear hgNr
          go_wp2_with fail
          refine hword.mono ?_
          rintro e w5 ⟨v, rfl, hv, lv, hb5⟩
          clear hword hcut
          have hl4 : (cs4 ++ lw key 8 ++ [count] ++ lw nonce k2).length = 13 + k2 := by rw [List.length_append, List.length_append, List.length_append, lw_len, lw_len]; rfl
          have hg5 : Hid (w5.heap[W.heap.size]? = some (.cells (u32v (uptoW 16 (cs4 ++ lw key 8 ++ [count] ++ lw nonce k2))).toArray 51 (0, 0))) := (hb5.block _ (Array.getElem?_eq_some_iff.1 hg.out).1).trans hg.out
          have hcl := row_cell hl4 (by omega) hg5.out
          have hf : w5.frozen? ⟨W.heap.size, 13 + k2, none⟩ = false := frozen_of_row _ _ _ _ _ hg5.out
          have hnx : Hid ((w5.setCell ⟨W.heap.size, 13 + k2, none⟩ (.int .u32 (v : Int))).heap[W.heap.size]? = some (.cells (u32v (uptoW 16 (cs4 ++ lw key 8 ++ [count] ++ lw nonce (k2 + 1)))).toArray 51 (0, 0))) := by
            have h1 := wrow_next (v := v) hl4 (by omega) hg5.out
            rw [hv.out, List.append_assoc (cs4 ++ lw key 8 ++ [count])] at h1
            rw [show lw nonce (k2 + 1) = lw nonce k2 ++ [ln ((nonce.drop (4 * k2)).take 4)] from rfl, hv.out]
            exact h1
          have hb6 : Below W.heap.size W (w5.setCell ⟨W.heap.size, 13 + k2, none⟩ (.int .u32 (v : Int))) := (below_next hb hb.size hb5).setCell (Nat.le_refl _) _
          clear hl4
          go_wp2
          go_roundw
          case rel => exact ⟨k2 + 1, by omega, by go_num, hnx, hb6⟩
          case measure => simp [intOf]; omega
        · obtain ⟨F, hF⟩ : ∃ F, F = firstOf key count nonce := ⟨_, rfl⟩
          have hgF : Hid (wr.heap[W.heap.size]? = some (.cells (u32v F).toArray 51 (0, 0))) := by
            have h1 := hg.out
            rw [show k2 = 3 by omega, ← HFP.out, uptoW_all 16 _ (firstOf_len _ _ _), ← hF] at h1
            exact h1
          have HFL := Lib.hid (show F.length = 16 by rw [hF]; exact firstOf_len _ _ _)
          have hFs : small32 F := by rw [hF]; exact firstOf_small _ _ _
          have HFS := Lib.hid (show (u32v F).toArray.size = 16 by simp [u32v_len, HFL.out])
          have HF := vlt hF
          have hsr : W.heap.size < wr.heap.size := (Array.getElem?_eq_some_iff.1 hgF.out).1
          clear hF hg HFP
          go_upto_region 12 with (first
            | (with_reducible refine wpList_load_row rfl 51 (.tmp 7) rfl W.heap.size rfl 51 (u32v F).toArray (0, 0) _ hgF.out Try.underlying51 rfl (by rw [HFS.out]; kernel_rfl) ?_)
            | ((with_reducible refine wpList_store_row rfl 51 (.tmp 10) (.tmp 44) rfl wr.heap.size (u32v F).toArray rfl rfl 51 _ (heap_alloc_new _ _) (by rw [HFS.out]; kernel_rfl) (by rw [HFS.out]; exact HZS.out) (all_oneCell_toArray (u32v_one _)) ?_); rw [World.setRow_alloc_new]))
          have hg10 : Hid ((wr.alloc (.cells (u32v F).toArray 51)).heap[wr.heap.size]? = some (.cells (u32v (rounds F 0)).toArray 51 (0, 0))) := heap_alloc_new _ _
          have hgF2 : Hid ((wr.alloc (.cells (u32v F).toArray 51)).heap[W.heap.size]? = some (.cells (u32v F).toArray 51 (0, 0))) := (Below.heap_alloc _ _ _ hsr).trans hgF.out
          have hbV : Below W.heap.size W (wr.alloc (.cells (u32v F).toArray 51)) := hb.alloc (Nat.le_of_lt hsr) _
          have hsV : wr.heap.size < (wr.alloc (.cells (u32v F).toArray 51)).heap.size := by simp
          generalize wr.alloc (.cells (u32v F).toArray 51) = V at *
          obtain ⟨G, hG⟩ : ∃ G, G = wr.heap.size := ⟨_, rfl⟩
          rw [← hG] at hg10 hsV hsr ⊢
          clear hG hgF hb hk hlt
          generalize decide ((k2 : Int) < 3) = d2
          go_wp2
          go_loopw [11] (fun i wt => ∃ k : Nat, k ≤ 10 ∧ i = .int .i64 (k : Int) ∧ Hid (wt.heap[G]? = some (.cells (u32v (rounds F k)).toArray 51 (0, 0))) ∧ But G V wt) (fun i _ => 10 - (intOf i).toNat)
          case atStart => exact ⟨0, by omega, rfl, hg10, But.refl _ _⟩
          case round =>
            clear hg10
            obtain ⟨r, hr, rfl, hgr, hbr⟩ := hrel
            by_cases hlt : r < 10
            · obtain ⟨X, hX⟩ : ∃ X, X = rounds F r := ⟨_, rfl⟩
              rw [← hX] at hgr
              have HXL := Lib.hid (show X.length = 16 by rw [hX, rounds_len]; exact HFL.out)
              have hXs : small32 X := by rw [hX]; exact rounds_small F hFs r
              have HX := vlt (show rounds F (r + 1) = half (half X 0 4) 1 4 by rw [rounds, ← hX]; rfl)
              clear hX
              go_wp2
              generalize decide ((r : Int) < 10) = d3
              go_loopw [12] (fun i wt => ∃ n : Nat, n ≤ 4 ∧ i = .int .i64 (n : Int) ∧ Hid (wt.heap[G]? = some (.cells (u32v (half X 0 n)).toArray 51 (0, 0))) ∧ But G V wt) (fun i _ => 4 - (intOf i).toNat)
              case atStart => exact ⟨0, by omega, rfl, hgr, hbr⟩
              case round =>
                clear hgr hbr
                obtain ⟨n, hn, rfl, hgn, hbn⟩ := hrel
                by_cases hlt2 : n < 4
                · skip
                  obtain ⟨Y, hY⟩ : ∃ Y, Y = half X 0 n := ⟨_, rfl⟩
                  rw [← hY] at hgn
                  have HYL := Lib.hid (show Y.length = 16 by rw [hY, half_len]; exact HXL.out)
                  have hYs : small32 Y := by rw [hY]; exact half_small X 0 hXs n
                  obtain ⟨j, hj⟩ : ∃ j, j = 4 + (n + 0) % 4 := ⟨_, rfl⟩
                  obtain ⟨k, hk'⟩ : ∃ k, k = 8 + (n + 2 * 0) % 4 := ⟨_, rfl⟩
                  obtain ⟨m, hm⟩ : ∃ m, m = 12 + (n + 3 * 0) % 4 := ⟨_, rfl⟩
                  have HH := vlt (show half X 0 (n + 1) = q4 Y n j k m by rw [half, ← hY, hj, hk', hm])
                  have ln : n < 16 := by omega
                  have lj : j < 16 := by omega
                  have lk : k < 16 := by omega
                  have lm : m < 16 := by omega
                  have in_ : (n : Int) < 16 := by omega
                  have ij : (j : Int) < 16 := by omega
                  have ik : (k : Int) < 16 := by omega
                  have im : (m : Int) < 16 := by omega
                  have hw1 : IntKind.i64.wrap (4 + (n : Int)) = (j : Int) := by rw [IntWalk.i64_in _ (by omega)]; omega
                  have hw2 : IntKind.i64.wrap (8 + (n : Int)) = (k : Int) := by rw [IntWalk.i64_in _ (by omega)]; omega
                  have hw3 : IntKind.i64.wrap (12 + (n : Int)) = (m : Int) := by rw [IntWalk.i64_in _ (by omega)]; omega
                  clear hY hj hk' hm
                  have c0 := word_at hgn.out n (by rw [HYL.out]; exact ln)
                  have c1 := word_at hgn.out j (by rw [HYL.out]; exact lj)
                  have c2 := word_at hgn.out k (by rw [HYL.out]; exact lk)
                  have c3 := word_at hgn.out m (by rw [HYL.out]; exact lm)
                  have HQ := Lib.hid (fun p q r s => q4_eq (s := Y) (i := n) (j := j) (k := k) (l := m) (p := p) (q := q) (r := r) (t := s))
                  have b1 := hYs.at_ j
                  have b3 := hYs.at_ m
                  generalize natAt Y n = x0 at *
                  generalize natAt Y j = x1 at *
                  generalize natAt Y k = x2 at *
                  generalize natAt Y m = x3 at *
                  go_wp2_with fail
                  refine c_start (S := (fun W => W.cell? ⟨G, n, none⟩ = some (.int .u32 (x0 : Int)) ∧ W.cell? ⟨G, j, none⟩ = some (.int .u32 (x1 : Int)) ∧ W.cell? ⟨G, k, none⟩ = some (.int .u32 (x2 : Int)) ∧ W.cell? ⟨G, m, none⟩ = some (.int .u32 (x3 : Int)))) 22 (by kernel_rfl) (⟨c0, c1, c2, c3⟩) (fun hHeld => ?_)
                  refine c_take (i := 0) (oi := ⟨(some 54), _, _, _, _, _⟩) (v := ?vq1_0) rfl (by decide) (by kernel_rfl) (by kernel_rfl) (by kernel_rfl) (fun _ _ _ h => h) (Or.inl ⟨by rfl, ?yq1_0⟩) hHeld ?_
                  case yq1_0 => (intro W0 hSw; go_simp; try with_reducible rfl)
                  try simp only [Act.put, List.setIfInBounds_toArray, List.set_cons_zero, List.set_cons_succ]
                  refine c_take (i := 1) (oi := ⟨(some 55), _, _, _, _, _⟩) (v := ?vq1_1) rfl (by decide) (by kernel_rfl) (by kernel_rfl) (by kernel_rfl) (fun _ _ _ h => h) (Or.inl ⟨by rfl, ?yq1_1⟩) hHeld ?_
                  case yq1_1 => (intro W0 hSw; go_simp; try with_reducible rfl)
                  try simp only [Act.put, List.setIfInBounds_toArray, List.set_cons_zero, List.set_cons_succ]
                  refine c_take (i := 2) (oi := ⟨(some 56), _, _, _, _, _⟩) (v := ?vq1_2) rfl (by decide) (by kernel_rfl) (by kernel_rfl) (by kernel_rfl) (fun _ _ _ h => h) (Or.inl ⟨by rfl, ?yq1_2⟩) hHeld ?_
                  case yq1_2 => (intro W0 hSw; go_simp; try with_reducible rfl)
                  try simp only [Act.put, List.setIfInBounds_toArray, List.set_cons_zero, List.set_cons_succ]
                  refine c_take (i := 3) (oi := ⟨(some 57), _, _, _, _, _⟩) (v := ?vq1_3) rfl (by decide) (by kernel_rfl) (by kernel_rfl) (by kernel_rfl) (fun _ _ _ h => h) (Or.inl ⟨by rfl, ?yq1_3⟩) hHeld ?_
                  case yq1_3 => (intro W0 hSw; go_simp; try with_reducible rfl)
                  try simp only [Act.put, List.setIfInBounds_toArray, List.set_cons_zero, List.set_cons_succ]
                  refine c_take (i := 4) (oi := ⟨(some 58), _, _, _, _, _⟩) (v := ?vq1_4) rfl (by decide) (by kernel_rfl) (by kernel_rfl) (by kernel_rfl) (fun _ _ _ h => h) (Or.inl ⟨by rfl, ?yq1_4⟩) hHeld ?_
                  case yq1_4 => (intro W0 hSw; go_simp; try with_reducible rfl)
                  try simp only [Act.put, List.setIfInBounds_toArray, List.set_cons_zero, List.set_cons_succ]
                  refine c_take (i := 5) (oi := ⟨(some 59), _, _, _, _, _⟩) (v := ?vq1_5) rfl (by decide) (by kernel_rfl) (by kernel_rfl) (by kernel_rfl) (fun _ _ _ h => h) (Or.inl ⟨by rfl, ?yq1_5⟩) hHeld ?_
                  case yq1_5 => (intro W0 hSw; go_simp; try with_reducible rfl)
                  try simp only [Act.put, List.setIfInBounds_toArray, List.set_cons_zero, List.set_cons_succ]
                  refine c_take (i := 6) (oi := ⟨(some 60), _, _, _, _, _⟩) (v := ?vq1_6) rfl (by decide) (by kernel_rfl) (by kernel_rfl) (by kernel_rfl) (fun _ _ _ h => h) (Or.inl ⟨by rfl, ?yq1_6⟩) hHeld ?_
                  case yq1_6 => (intro W0 hSw; go_simp; try with_reducible rfl)
                  try simp only [Act.put, List.setIfInBounds_toArray, List.set_cons_zero, List.set_cons_succ]
                  refine c_take (i := 7) (oi := ⟨(some 61), _, _, _, _, _⟩) (v := ?vq1_7) rfl (by decide) (by kernel_rfl) (by kernel_rfl) (by kernel_rfl) (fun _ _ _ h => h) (Or.inl ⟨by rfl, ?yq1_7⟩) hHeld ?_
                  case yq1_7 => (intro W0 hSw; go_simp; try with_reducible rfl)
                  try simp only [Act.put, List.setIfInBounds_toArray, List.set_cons_zero, List.set_cons_succ]
                  refine c_take (i := 8) (oi := ⟨(some 62), _, _, _, _, _⟩) (v := ?vq1_8) rfl (by decide) (by kernel_rfl) (by kernel_rfl) (by kernel_rfl) (fun _ _ _ h => h) (Or.inl ⟨by rfl, ?yq1_8⟩) hHeld ?_
                  case yq1_8 => (intro W0 hSw; go_simp; try with_reducible rfl)
                  try simp only [Act.put, List.setIfInBounds_toArray, List.set_cons_zero, List.set_cons_succ]
                  refine c_read (i := 9) (oi := ⟨(some 63), _, _, _, _, _⟩) (v := ?vq1_9) rfl (by decide) (by kernel_rfl) (by kernel_rfl) (by kernel_rfl) (by kernel_rfl) (by kernel_rfl) (fun _ _ _ h => h) (Or.inl ⟨by rfl, ?yq1_9⟩) hHeld ?_
                  case yq1_9 => (intro W0 hSw; go_simp; try with_reducible rfl)
                  try simp only [Act.put, List.setIfInBounds_toArray, List.set_cons_zero, List.set_cons_succ]
                  refine c_take (i := 10) (oi := ⟨(some 64), _, _, _, _, _⟩) (v := ?vq1_10) rfl (by decide) (by kernel_rfl) (by kernel_rfl) (by kernel_rfl) (fun _ _ _ h => h) (Or.inl ⟨by rfl, ?yq1_10⟩) hHeld ?_
                  case yq1_10 => (intro W0 hSw; go_simp; try with_reducible rfl)
                  try simp only [Act.put, List.setIfInBounds_toArray, List.set_cons_zero, List.set_cons_succ]
                  refine c_take (i := 11) (oi := ⟨(some 65), _, _, _, _, _⟩) (v := ?vq1_11) rfl (by decide) (by kernel_rfl) (by kernel_rfl) (by kernel_rfl) (fun _ _ _ h => h) (Or.inl ⟨by rfl, ?yq1_11⟩) hHeld ?_
                  case yq1_11 => (intro W0 hSw; go_simp; try with_reducible rfl)
                  try simp only [Act.put, List.setIfInBounds_toArray, List.set_cons_zero, List.set_cons_succ]
                  refine c_take (i := 12) (oi := ⟨(some 66), _, _, _, _, _⟩) (v := ?vq1_12) rfl (by decide) (by kernel_rfl) (by kernel_rfl) (by kernel_rfl) (fun _ _ _ h => h) (Or.inl ⟨by rfl, ?yq1_12⟩) hHeld ?_
                  case yq1_12 => (intro W0 hSw; go_simp; try with_reducible rfl)
                  try simp only [Act.put, List.setIfInBounds_toArray, List.set_cons_zero, List.set_cons_succ]
                  refine c_read (i := 13) (oi := ⟨(some 67), _, _, _, _, _⟩) (v := ?vq1_13) rfl (by decide) (by kernel_rfl) (by kernel_rfl) (by kernel_rfl) (by kernel_rfl) (by kernel_rfl) (fun _ _ _ h => h) (Or.inl ⟨by rfl, ?yq1_13⟩) hHeld ?_
                  case yq1_13 => (intro W0 hSw; go_simp; try with_reducible rfl)
                  try simp only [Act.put, List.setIfInBounds_toArray, List.set_cons_zero, List.set_cons_succ]
                  refine c_take (i := 14) (oi := ⟨(some 68), _, _, _, _, _⟩) (v := ?vq1_14) rfl (by decide) (by kernel_rfl) (by kernel_rfl) (by kernel_rfl) (fun _ _ _ h => h) (Or.inl ⟨by rfl, ?yq1_14⟩) hHeld ?_
                  case yq1_14 => (intro W0 hSw; go_simp; try with_reducible rfl)
                  try simp only [Act.put, List.setIfInBounds_toArray, List.set_cons_zero, List.set_cons_succ]
                  refine c_take (i := 15) (oi := ⟨(some 69), _, _, _, _, _⟩) (v := ?vq1_15) rfl (by decide) (by kernel_rfl) (by kernel_rfl) (by kernel_rfl) (fun _ _ _ h => h) (Or.inl ⟨by rfl, ?yq1_15⟩) hHeld ?_
                  case yq1_15 => (intro W0 hSw; go_simp; try with_reducible rfl)
                  try simp only [Act.put, List.setIfInBounds_toArray, List.set_cons_zero, List.set_cons_succ]
                  refine c_take (i := 16) (oi := ⟨(some 70), _, _, _, _, _⟩) (v := ?vq1_16) rfl (by decide) (by kernel_rfl) (by kernel_rfl) (by kernel_rfl) (fun _ _ _ h => h) (Or.inl ⟨by rfl, ?yq1_16⟩) hHeld ?_
                  case yq1_16 => (intro W0 hSw; go_simp; try with_reducible rfl)
                  try simp only [Act.put, List.setIfInBounds_toArray, List.set_cons_zero, List.set_cons_succ]
                  refine c_read (i := 17) (oi := ⟨(some 71), _, _, _, _, _⟩) (v := ?vq1_17) rfl (by decide) (by kernel_rfl) (by kernel_rfl) (by kernel_rfl) (by kernel_rfl) (by kernel_rfl) (fun _ _ _ h => h) (Or.inl ⟨by rfl, ?yq1_17⟩) hHeld ?_
                  case yq1_17 => (intro W0 hSw; go_simp; try with_reducible rfl)
                  try simp only [Act.put, List.setIfInBounds_toArray, List.set_cons_zero, List.set_cons_succ]
                  refine c_take (i := 18) (oi := ⟨(some 72), _, _, _, _, _⟩) (v := ?vq1_18) rfl (by decide) (by kernel_rfl) (by kernel_rfl) (by kernel_rfl) (fun _ _ _ h => h) (Or.inl ⟨by rfl, ?yq1_18⟩) hHeld ?_
                  case yq1_18 => (intro W0 hSw; go_simp; try with_reducible rfl)
                  try simp only [Act.put, List.setIfInBounds_toArray, List.set_cons_zero, List.set_cons_succ]
                  refine c_take (i := 19) (oi := ⟨(some 73), _, _, _, _, _⟩) (v := ?vq1_19) rfl (by decide) (by kernel_rfl) (by kernel_rfl) (by kernel_rfl) (fun _ _ _ h => h) (Or.inl ⟨by rfl, ?yq1_19⟩) hHeld ?_
                  case yq1_19 => (intro W0 hSw; go_simp; try with_reducible rfl)
                  try simp only [Act.put, List.setIfInBounds_toArray, List.set_cons_zero, List.set_cons_succ]
                  refine c_take (i := 20) (oi := ⟨(some 74), _, _, _, _, _⟩) (v := ?vq1_20) rfl (by decide) (by kernel_rfl) (by kernel_rfl) (by kernel_rfl) (fun _ _ _ h => h) (Or.inl ⟨by rfl, ?yq1_20⟩) hHeld ?_
                  case yq1_20 => (intro W0 hSw; go_simp; try with_reducible rfl)
                  try simp only [Act.put, List.setIfInBounds_toArray, List.set_cons_zero, List.set_cons_succ]
                  refine c_read (i := 21) (oi := ⟨(some 75), _, _, _, _, _⟩) (v := ?vq1_21) rfl (by decide) (by kernel_rfl) (by kernel_rfl) (by kernel_rfl) (by kernel_rfl) (by kernel_rfl) (fun _ _ _ h => h) (Or.inl ⟨by rfl, ?yq1_21⟩) hHeld ?_
                  case yq1_21 => (intro W0 hSw; go_simp; try with_reducible rfl)
                  try simp only [Act.put, List.setIfInBounds_toArray, List.set_cons_zero, List.set_cons_succ]
                  refine c_call (S' := (fun _ => True)) (o := ⟨(some 76), _, _, _, _, _⟩) (by kernel_rfl) (by kernel_rfl) rfl (fun K hK => ?_)
                  clear hHeld
                  go_simp
                  refine (refQuarter_any x0 x1 x2 x3 _ b1 b3).mono ?_
                  rintro e w2 ⟨p, q, r, s, rfl, hqr, ⟨lp, lq, lr, ls⟩, rfl⟩
                  refine hK.out _ _ (trivial) (fun hHeld => ?_)
                  clear hK K
                  try simp only [Act.put, List.setIfInBounds_toArray, List.set_cons_zero, List.set_cons_succ]
                  refine wpAnyH_take (i := 23) (oi := ⟨(some 53), _, _, _, _, _⟩) (v := ?vq1_22) rfl (by kernel_rfl) (by kernel_rfl) (by kernel_rfl) (fun _ _ _ h => h) (Or.inl ⟨by rfl, ?yq1_22⟩) hHeld ?_
                  case yq1_22 => (intro W0 hSw; go_simp; try with_reducible rfl)
                  try simp only [Act.put, List.setIfInBounds_toArray, List.set_cons_zero, List.set_cons_succ]
                  refine wpAnyH_take (i := 24) (oi := ⟨(some 77), _, _, _, _, _⟩) (v := ?vq1_23) rfl (by kernel_rfl) (by kernel_rfl) (by kernel_rfl) (fun _ _ _ h => h) (Or.inl ⟨by rfl, ?yq1_23⟩) hHeld ?_
                  case yq1_23 => (intro W0 hSw; go_simp; try with_reducible rfl)
                  try simp only [Act.put, List.setIfInBounds_toArray, List.set_cons_zero, List.set_cons_succ]
                  refine wpAnyH_take (i := 25) (oi := ⟨(some 78), _, _, _, _, _⟩) (v := ?vq1_24) rfl (by kernel_rfl) (by kernel_rfl) (by kernel_rfl) (fun _ _ _ h => h) (Or.inl ⟨by rfl, ?yq1_24⟩) hHeld ?_
                  case yq1_24 => (intro W0 hSw; go_simp; try with_reducible rfl)
                  try simp only [Act.put, List.setIfInBounds_toArray, List.set_cons_zero, List.set_cons_succ]
                  refine wpAnyH_take (i := 26) (oi := ⟨(some 79), _, _, _, _, _⟩) (v := ?vq1_25) rfl (by kernel_rfl) (by kernel_rfl) (by kernel_rfl) (fun _ _ _ h => h) (Or.inl ⟨by rfl, ?yq1_25⟩) hHeld ?_
                  case yq1_25 => (intro W0 hSw; go_simp; try with_reducible rfl)
                  try simp only [Act.put, List.setIfInBounds_toArray, List.set_cons_zero, List.set_cons_succ]
                  refine wpAnyH_take (i := 27) (oi := ⟨(some 80), _, _, _, _, _⟩) (v := ?vq1_26) rfl (by kernel_rfl) (by kernel_rfl) (by kernel_rfl) (fun _ _ _ h => h) (Or.inl ⟨by rfl, ?yq1_26⟩) hHeld ?_
                  case yq1_26 => (intro W0 hSw; go_simp; try with_reducible rfl)
                  try simp only [Act.put, List.setIfInBounds_toArray, List.set_cons_zero, List.set_cons_succ]
                  refine wpAnyH_take (i := 28) (oi := ⟨(some 81), _, _, _, _, _⟩) (v := ?vq1_27) rfl (by kernel_rfl) (by kernel_rfl) (by kernel_rfl) (fun _ _ _ h => h) (Or.inl ⟨by rfl, ?yq1_27⟩) hHeld ?_
                  case yq1_27 => (intro W0 hSw; go_simp; try with_reducible rfl)
                  try simp only [Act.put, List.setIfInBounds_toArray, List.set_cons_zero, List.set_cons_succ]
                  refine wpAnyH_ready (rs := [29]) (by kernel_rfl) (by simp) ?_
                  refine AllReadyH.cons (i := 29) (o := ⟨none, _, _, _, _, _⟩) rfl (fun K hK => ?_) AllReadyH.nil
                  refine step_set rfl 39 (.tmp 81) (.tmp 77) rfl Try.sizeU32 G n (by rfl) .u32 (p : Int) (by rfl) (u32v Y) 51 hgn.out (by rw [u32v_len, HYL.out]; exact ln) wr (But.refl G wr).drew ?_
                  intro w3 hg3 hb3
                  refine hK.out _ _ (trivial) (fun hHeld => ?_)
                  clear hK K
                  try simp only [Act.put]
                  refine wpAnyH_take (i := 30) (oi := ⟨(some 82), _, _, _, _, _⟩) (v := ?vq1_28) rfl (by kernel_rfl) (by kernel_rfl) (by kernel_rfl) (fun _ _ _ h => h) (Or.inl ⟨by rfl, ?yq1_28⟩) hHeld ?_
                  case yq1_28 => (intro W0 hSw; go_simp; try with_reducible rfl)
                  try simp only [Act.put, List.setIfInBounds_toArray, List.set_cons_zero, List.set_cons_succ]
                  refine wpAnyH_ready (rs := [31]) (by kernel_rfl) (by simp) ?_
                  refine AllReadyH.cons (i := 31) (o := ⟨none, _, _, _, _, _⟩) rfl (fun K hK => ?_) AllReadyH.nil
                  refine step_set rfl 39 (.tmp 82) (.tmp 78) rfl Try.sizeU32 G j (by rfl) .u32 (q : Int) (by rfl) _ 51 hg3.out (by rw [List.length_set, u32v_len, HYL.out]; exact lj) wr hb3 ?_
                  intro w4 hg4 hb4
                  refine hK.out _ _ (trivial) (fun hHeld => ?_)
                  clear hK K
                  try simp only [Act.put]
                  refine wpAnyH_take (i := 32) (oi := ⟨(some 83), _, _, _, _, _⟩) (v := ?vq1_29) rfl (by kernel_rfl) (by kernel_rfl) (by kernel_rfl) (fun _ _ _ h => h) (Or.inl ⟨by rfl, ?yq1_29⟩) hHeld ?_
                  case yq1_29 => (intro W0 hSw; go_simp; try with_reducible rfl)
                  try simp only [Act.put, List.setIfInBounds_toArray, List.set_cons_zero, List.set_cons_succ]
                  refine wpAnyH_ready (rs := [33]) (by kernel_rfl) (by simp) ?_
                  refine AllReadyH.cons (i := 33) (o := ⟨none, _, _, _, _, _⟩) rfl (fun K hK => ?_) AllReadyH.nil
                  refine step_set rfl 39 (.tmp 83) (.tmp 79) rfl Try.sizeU32 G k (by rfl) .u32 (r : Int) (by rfl) _ 51 hg4.out (by rw [List.length_set, List.length_set, u32v_len, HYL.out]; exact lk) wr hb4 ?_
                  intro w5 hg5 hb5
                  refine hK.out _ _ (trivial) (fun hHeld => ?_)
                  clear hK K
                  try simp only [Act.put]
                  refine wpAnyH_take (i := 34) (oi := ⟨(some 84), _, _, _, _, _⟩) (v := ?vq1_30) rfl (by kernel_rfl) (by kernel_rfl) (by kernel_rfl) (fun _ _ _ h => h) (Or.inl ⟨by rfl, ?yq1_30⟩) hHeld ?_
                  case yq1_30 => (intro W0 hSw; go_simp; try with_reducible rfl)
                  try simp only [Act.put, List.setIfInBounds_toArray, List.set_cons_zero, List.set_cons_succ]
                  refine wpAnyH_ready (rs := [35]) (by kernel_rfl) (by simp) ?_
                  refine AllReadyH.cons (i := 35) (o := ⟨none, _, _, _, _, _⟩) rfl (fun K hK => ?_) AllReadyH.nil
                  refine step_set rfl 39 (.tmp 84) (.tmp 80) rfl Try.sizeU32 G m (by rfl) .u32 (s : Int) (by rfl) _ 51 hg5.out (by rw [List.length_set, List.length_set, List.length_set, u32v_len, HYL.out]; exact lm) wr hb5 ?_
                  intro w6 hg6 hb6
                  refine hK.out _ _ (trivial) (fun hHeld => ?_)
                  clear hK K
                  try simp only [Act.put]
                  refine wpAnyH_done (by kernel_rfl) ?_ _
                  have hg7 : Hid (w6.heap[G]? = some (.cells (u32v (half X 0 (n + 1))).toArray 51 (0, 0))) := by
                    have h1 := hg6.out
                    rw [u32v_set, u32v_set, u32v_set, u32v_set, ← HQ.out p q r s hqr.out, ← HH.out] at h1
                    exact h1
                  clear hg3 hg4 hg5 hg6 hb3 hb4 hb5 c0 c1 c2 c3
                  go_wp2
                  go_roundw
                  case rel => exact ⟨n + 1, by omega, by go_num, hg7, hbn.trans hb6⟩
                  case measure => simp [intOf]; omega
                · obtain ⟨Z, hZ⟩ : ∃ Z, Z = half X 0 4 := ⟨_, rfl⟩
                  have hgz : Hid (wr.heap[G]? = some (.cells (u32v Z).toArray 51 (0, 0))) := by
                    have h1 := hgn.out
                    rw [show n = 4 by omega, ← hZ] at h1
                    exact h1
                  have HZL := Lib.hid (show Z.length = 16 by rw [hZ, half_len]; exact HXL.out)
                  have hZs : small32 Z := by rw [hZ]; exact half_small X 0 hXs 4
                  rw [← hZ] at HX
                  clear hZ hgn
                  go_upto_region 20 with fail
                  clear hn hlt2
                  generalize decide ((n : Int) < 4) = d4
                  go_loopw [13] (fun i wt => ∃ n : Nat, n ≤ 4 ∧ i = .int .i64 (n : Int) ∧ Hid (wt.heap[G]? = some (.cells (u32v (half Z 1 n)).toArray 51 (0, 0))) ∧ But G V wt) (fun i _ => 4 - (intOf i).toNat)
                  case atStart => exact ⟨0, by omega, rfl, hgz, hbn⟩
                  case round =>
                    clear hgz hbn
                    obtain ⟨n, hn, rfl, hgn, hbn⟩ := hrel
                    by_cases hlt2 : n < 4
                    · skip
                      obtain ⟨Y, hY⟩ : ∃ Y, Y = half Z 1 n := ⟨_, rfl⟩
                      rw [← hY] at hgn
                      have HYL := Lib.hid (show Y.length = 16 by rw [hY, half_len]; exact HZL.out)
                      have hYs : small32 Y := by rw [hY]; exact half_small Z 1 hZs n
                      obtain ⟨j, hj⟩ : ∃ j, j = 4 + (n + 1) % 4 := ⟨_, rfl⟩
                      obtain ⟨k, hk'⟩ : ∃ k, k = 8 + (n + 2 * 1) % 4 := ⟨_, rfl⟩
                      obtain ⟨m, hm⟩ : ∃ m, m = 12 + (n + 3 * 1) % 4 := ⟨_, rfl⟩
                      have HH := vlt (show half Z 1 (n + 1) = q4 Y n j k m by rw [half, ← hY, hj, hk', hm])
                      have ln : n < 16 := by omega
                      have lj : j < 16 := by omega
                      have lk : k < 16 := by omega
                      have lm : m < 16 := by omega
                      have in_ : (n : Int) < 16 := by omega
                      have ij : (j : Int) < 16 := by omega
                      have ik : (k : Int) < 16 := by omega
                      have im : (m : Int) < 16 := by omega
                      have EJ := Lib.hid (show (4 : Int) + ((n : Int) + 1) % 4 = (j : Int) by omega)
                      have EK := Lib.hid (show (8 : Int) + ((n : Int) + 2) % 4 = (k : Int) by omega)
                      have EM := Lib.hid (show (12 : Int) + ((n : Int) + 3) % 4 = (m : Int) by omega)
                      clear hY hj hk' hm
                      have c0 := word_at hgn.out n (by rw [HYL.out]; exact ln)
                      have c1 := word_at hgn.out j (by rw [HYL.out]; exact lj)
                      have c2 := word_at hgn.out k (by rw [HYL.out]; exact lk)
                      have c3 := word_at hgn.out m (by rw [HYL.out]; exact lm)
                      have HQ := Lib.hid (fun p q r s => q4_eq (s := Y) (i := n) (j := j) (k := k) (l := m) (p := p) (q := q) (r := r) (t := s))
                      have b1 := hYs.at_ j
                      have b3 := hYs.at_ m
                      generalize natAt Y n = x0 at *
                      generalize natAt Y j = x1 at *
                      generalize natAt Y k = x2 at *
                      generalize natAt Y m = x3 at *
                      go_wp2_with fail
                      rw [EJ.out, EK.out, EM.out]
                      refine c_start (S := (fun W => W.cell? ⟨G, n, none⟩ = some (.int .u32 (x0 : Int)) ∧ W.cell? ⟨G, j, none⟩ = some (.int .u32 (x1 : Int)) ∧ W.cell? ⟨G, k, none⟩ = some (.int .u32 (x2 : Int)) ∧ W.cell? ⟨G, m, none⟩ = some (.int .u32 (x3 : Int)))) 16 (by kernel_rfl) (⟨c0, c1, c2, c3⟩) (fun hHeld => ?_)
                      refine c_take (i := 0) (oi := ⟨(some 102), _, _, _, _, _⟩) (v := ?vq2_0) rfl (by decide) (by kernel_rfl) (by kernel_rfl) (by kernel_rfl) (fun _ _ _ h => h) (Or.inl ⟨by rfl, ?yq2_0⟩) hHeld ?_
                      case yq2_0 => (intro W0 hSw; go_simp; try with_reducible rfl)
                      try simp only [Act.put, List.setIfInBounds_toArray, List.set_cons_zero, List.set_cons_succ]
                      refine c_take (i := 1) (oi := ⟨(some 103), _, _, _, _, _⟩) (v := ?vq2_1) rfl (by decide) (by kernel_rfl) (by kernel_rfl) (by kernel_rfl) (fun _ _ _ h => h) (Or.inl ⟨by rfl, ?yq2_1⟩) hHeld ?_
                      case yq2_1 => (intro W0 hSw; go_simp; try with_reducible rfl)
                      try simp only [Act.put, List.setIfInBounds_toArray, List.set_cons_zero, List.set_cons_succ]
                      refine c_take (i := 2) (oi := ⟨(some 104), _, _, _, _, _⟩) (v := ?vq2_2) rfl (by decide) (by kernel_rfl) (by kernel_rfl) (by kernel_rfl) (fun _ _ _ h => h) (Or.inl ⟨by rfl, ?yq2_2⟩) hHeld ?_
                      case yq2_2 => (intro W0 hSw; go_simp; try with_reducible rfl)
                      try simp only [Act.put, List.setIfInBounds_toArray, List.set_cons_zero, List.set_cons_succ]
                      refine c_take (i := 3) (oi := ⟨(some 105), _, _, _, _, _⟩) (v := ?vq2_3) rfl (by decide) (by kernel_rfl) (by kernel_rfl) (by kernel_rfl) (fun _ _ _ h => h) (Or.inl ⟨by rfl, ?yq2_3⟩) hHeld ?_
                      case yq2_3 => (intro W0 hSw; go_simp; try with_reducible rfl)
                      try simp only [Act.put, List.setIfInBounds_toArray, List.set_cons_zero, List.set_cons_succ]
                      refine c_take (i := 4) (oi := ⟨(some 106), _, _, _, _, _⟩) (v := ?vq2_4) rfl (by decide) (by kernel_rfl) (by kernel_rfl) (by kernel_rfl) (fun _ _ _ h => h) (Or.inl ⟨by rfl, ?yq2_4⟩) hHeld ?_
                      case yq2_4 => (intro W0 hSw; go_simp; try with_reducible rfl)
                      try simp only [Act.put, List.setIfInBounds_toArray, List.set_cons_zero, List.set_cons_succ]
                      refine c_take (i := 5) (oi := ⟨(some 107), _, _, _, _, _⟩) (v := ?vq2_5) rfl (by decide) (by kernel_rfl) (by kernel_rfl) (by kernel_rfl) (fun _ _ _ h => h) (Or.inl ⟨by rfl, ?yq2_5⟩) hHeld ?_
                      case yq2_5 => (intro W0 hSw; go_simp; try with_reducible rfl)
                      try simp only [Act.put, List.setIfInBounds_toArray, List.set_cons_zero, List.set_cons_succ]
                      refine c_read (i := 6) (oi := ⟨(some 108), _, _, _, _, _⟩) (v := ?vq2_6) rfl (by decide) (by kernel_rfl) (by kernel_rfl) (by kernel_rfl) (by kernel_rfl) (by kernel_rfl) (fun _ _ _ h => h) (Or.inl ⟨by rfl, ?yq2_6⟩) hHeld ?_
                      case yq2_6 => (intro W0 hSw; go_simp; try with_reducible rfl)
                      try simp only [Act.put, List.setIfInBounds_toArray, List.set_cons_zero, List.set_cons_succ]
                      refine c_take (i := 7) (oi := ⟨(some 109), _, _, _, _, _⟩) (v := ?vq2_7) rfl (by decide) (by kernel_rfl) (by kernel_rfl) (by kernel_rfl) (fun _ _ _ h => h) (Or.inl ⟨by rfl, ?yq2_7⟩) hHeld ?_
                      case yq2_7 => (intro W0 hSw; go_simp; try with_reducible rfl)
                      try simp only [Act.put, List.setIfInBounds_toArray, List.set_cons_zero, List.set_cons_succ]
                      refine c_take (i := 8) (oi := ⟨(some 110), _, _, _, _, _⟩) (v := ?vq2_8) rfl (by decide) (by kernel_rfl) (by kernel_rfl) (by kernel_rfl) (fun _ _ _ h => h) (Or.inl ⟨by rfl, ?yq2_8⟩) hHeld ?_
                      case yq2_8 => (intro W0 hSw; go_simp; try with_reducible rfl)
                      try simp only [Act.put, List.setIfInBounds_toArray, List.set_cons_zero, List.set_cons_succ]
                      refine c_read (i := 9) (oi := ⟨(some 111), _, _, _, _, _⟩) (v := ?vq2_9) rfl (by decide) (by kernel_rfl) (by kernel_rfl) (by kernel_rfl) (by kernel_rfl) (by kernel_rfl) (fun _ _ _ h => h) (Or.inl ⟨by rfl, ?yq2_9⟩) hHeld ?_
                      case yq2_9 => (intro W0 hSw; go_simp; try with_reducible rfl)
                      try simp only [Act.put, List.setIfInBounds_toArray, List.set_cons_zero, List.set_cons_succ]
                      refine c_take (i := 10) (oi := ⟨(some 112), _, _, _, _, _⟩) (v := ?vq2_10) rfl (by decide) (by kernel_rfl) (by kernel_rfl) (by kernel_rfl) (fun _ _ _ h => h) (Or.inl ⟨by rfl, ?yq2_10⟩) hHeld ?_
                      case yq2_10 => (intro W0 hSw; go_simp; try with_reducible rfl)
                      try simp only [Act.put, List.setIfInBounds_toArray, List.set_cons_zero, List.set_cons_succ]
                      refine c_take (i := 11) (oi := ⟨(some 113), _, _, _, _, _⟩) (v := ?vq2_11) rfl (by decide) (by kernel_rfl) (by kernel_rfl) (by kernel_rfl) (fun _ _ _ h => h) (Or.inl ⟨by rfl, ?yq2_11⟩) hHeld ?_
                      case yq2_11 => (intro W0 hSw; go_simp; try with_reducible rfl)
                      try simp only [Act.put, List.setIfInBounds_toArray, List.set_cons_zero, List.set_cons_succ]
                      refine c_read (i := 12) (oi := ⟨(some 114), _, _, _, _, _⟩) (v := ?vq2_12) rfl (by decide) (by kernel_rfl) (by kernel_rfl) (by kernel_rfl) (by kernel_rfl) (by kernel_rfl) (fun _ _ _ h => h) (Or.inl ⟨by rfl, ?yq2_12⟩) hHeld ?_
                      case yq2_12 => (intro W0 hSw; go_simp; try with_reducible rfl)
                      try simp only [Act.put, List.setIfInBounds_toArray, List.set_cons_zero, List.set_cons_succ]
                      refine c_take (i := 13) (oi := ⟨(some 115), _, _, _, _, _⟩) (v := ?vq2_13) rfl (by decide) (by kernel_rfl) (by kernel_rfl) (by kernel_rfl) (fun _ _ _ h => h) (Or.inl ⟨by rfl, ?yq2_13⟩) hHeld ?_
                      case yq2_13 => (intro W0 hSw; go_simp; try with_reducible rfl)
                      try simp only [Act.put, List.setIfInBounds_toArray, List.set_cons_zero, List.set_cons_succ]
                      refine c_take (i := 14) (oi := ⟨(some 116), _, _, _, _, _⟩) (v := ?vq2_14) rfl (by decide) (by kernel_rfl) (by kernel_rfl) (by kernel_rfl) (fun _ _ _ h => h) (Or.inl ⟨by rfl, ?yq2_14⟩) hHeld ?_
                      case yq2_14 => (intro W0 hSw; go_simp; try with_reducible rfl)
                      try simp only [Act.put, List.setIfInBounds_toArray, List.set_cons_zero, List.set_cons_succ]
                      refine c_read (i := 15) (oi := ⟨(some 117), _, _, _, _, _⟩) (v := ?vq2_15) rfl (by decide) (by kernel_rfl) (by kernel_rfl) (by kernel_rfl) (by kernel_rfl) (by kernel_rfl) (fun _ _ _ h => h) (Or.inl ⟨by rfl, ?yq2_15⟩) hHeld ?_
                      case yq2_15 => (intro W0 hSw; go_simp; try with_reducible rfl)
                      try simp only [Act.put, List.setIfInBounds_toArray, List.set_cons_zero, List.set_cons_succ]
                      refine c_call (S' := (fun _ => True)) (o := ⟨(some 118), _, _, _, _, _⟩) (by kernel_rfl) (by kernel_rfl) rfl (fun K hK => ?_)
                      clear hHeld
                      go_simp
                      refine (refQuarter_any x0 x1 x2 x3 _ b1 b3).mono ?_
                      rintro e w2 ⟨p, q, r, s, rfl, hqr, ⟨lp, lq, lr, ls⟩, rfl⟩
                      refine hK.out _ _ (trivial) (fun hHeld => ?_)
                      clear hK K
                      try simp only [Act.put, List.setIfInBounds_toArray, List.set_cons_zero, List.set_cons_succ]
                      refine wpAnyH_take (i := 17) (oi := ⟨(some 101), _, _, _, _, _⟩) (v := ?vq2_16) rfl (by kernel_rfl) (by kernel_rfl) (by kernel_rfl) (fun _ _ _ h => h) (Or.inl ⟨by rfl, ?yq2_16⟩) hHeld ?_
                      case yq2_16 => (intro W0 hSw; go_simp; try with_reducible rfl)
                      try simp only [Act.put, List.setIfInBounds_toArray, List.set_cons_zero, List.set_cons_succ]
                      refine wpAnyH_take (i := 18) (oi := ⟨(some 119), _, _, _, _, _⟩) (v := ?vq2_17) rfl (by kernel_rfl) (by kernel_rfl) (by kernel_rfl) (fun _ _ _ h => h) (Or.inl ⟨by rfl, ?yq2_17⟩) hHeld ?_
                      case yq2_17 => (intro W0 hSw; go_simp; try with_reducible rfl)
                      try simp only [Act.put, List.setIfInBounds_toArray, List.set_cons_zero, List.set_cons_succ]
                      refine wpAnyH_take (i := 19) (oi := ⟨(some 120), _, _, _, _, _⟩) (v := ?vq2_18) rfl (by kernel_rfl) (by kernel_rfl) (by kernel_rfl) (fun _ _ _ h => h) (Or.inl ⟨by rfl, ?yq2_18⟩) hHeld ?_
                      case yq2_18 => (intro W0 hSw; go_simp; try with_reducible rfl)
                      try simp only [Act.put, List.setIfInBounds_toArray, List.set_cons_zero, List.set_cons_succ]
                      refine wpAnyH_take (i := 20) (oi := ⟨(some 121), _, _, _, _, _⟩) (v := ?vq2_19) rfl (by kernel_rfl) (by kernel_rfl) (by kernel_rfl) (fun _ _ _ h => h) (Or.inl ⟨by rfl, ?yq2_19⟩) hHeld ?_
                      case yq2_19 => (intro W0 hSw; go_simp; try with_reducible rfl)
                      try simp only [Act.put, List.setIfInBounds_toArray, List.set_cons_zero, List.set_cons_succ]
                      refine wpAnyH_take (i := 21) (oi := ⟨(some 122), _, _, _, _, _⟩) (v := ?vq2_20) rfl (by kernel_rfl) (by kernel_rfl) (by kernel_rfl) (fun _ _ _ h => h) (Or.inl ⟨by rfl, ?yq2_20⟩) hHeld ?_
                      case yq2_20 => (intro W0 hSw; go_simp; try with_reducible rfl)
                      try simp only [Act.put, List.setIfInBounds_toArray, List.set_cons_zero, List.set_cons_succ]
                      refine wpAnyH_take (i := 22) (oi := ⟨(some 123), _, _, _, _, _⟩) (v := ?vq2_21) rfl (by kernel_rfl) (by kernel_rfl) (by kernel_rfl) (fun _ _ _ h => h) (Or.inl ⟨by rfl, ?yq2_21⟩) hHeld ?_
                      case yq2_21 => (intro W0 hSw; go_simp; try with_reducible rfl)
                      try simp only [Act.put, List.setIfInBounds_toArray, List.set_cons_zero, List.set_cons_succ]
                      refine wpAnyH_ready (rs := [23]) (by kernel_rfl) (by simp) ?_
                      refine AllReadyH.cons (i := 23) (o := ⟨none, _, _, _, _, _⟩) rfl (fun K hK => ?_) AllReadyH.nil
                      refine step_set rfl 39 (.tmp 123) (.tmp 119) rfl Try.sizeU32 G n (by rfl) .u32 (p : Int) (by rfl) (u32v Y) 51 hgn.out (by rw [u32v_len, HYL.out]; exact ln) wr (But.refl G wr).drew ?_
                      intro w3 hg3 hb3
                      refine hK.out _ _ (trivial) (fun hHeld => ?_)
                      clear hK K
                      try simp only [Act.put]
                      refine wpAnyH_take (i := 24) (oi := ⟨(some 124), _, _, _, _, _⟩) (v := ?vq2_22) rfl (by kernel_rfl) (by kernel_rfl) (by kernel_rfl) (fun _ _ _ h => h) (Or.inl ⟨by rfl, ?yq2_22⟩) hHeld ?_
                      case yq2_22 => (intro W0 hSw; go_simp; try with_reducible rfl)
                      try simp only [Act.put, List.setIfInBounds_toArray, List.set_cons_zero, List.set_cons_succ]
                      refine wpAnyH_ready (rs := [25]) (by kernel_rfl) (by simp) ?_
                      refine AllReadyH.cons (i := 25) (o := ⟨none, _, _, _, _, _⟩) rfl (fun K hK => ?_) AllReadyH.nil
                      refine step_set rfl 39 (.tmp 124) (.tmp 120) rfl Try.sizeU32 G j (by rfl) .u32 (q : Int) (by rfl) _ 51 hg3.out (by rw [List.length_set, u32v_len, HYL.out]; exact lj) wr hb3 ?_
                      intro w4 hg4 hb4
                      refine hK.out _ _ (trivial) (fun hHeld => ?_)
                      clear hK K
                      try simp only [Act.put]
                      refine wpAnyH_take (i := 26) (oi := ⟨(some 125), _, _, _, _, _⟩) (v := ?vq2_23) rfl (by kernel_rfl) (by kernel_rfl) (by kernel_rfl) (fun _ _ _ h => h) (Or.inl ⟨by rfl, ?yq2_23⟩) hHeld ?_
                      case yq2_23 => (intro W0 hSw; go_simp; try with_reducible rfl)
                      try simp only [Act.put, List.setIfInBounds_toArray, List.set_cons_zero, List.set_cons_succ]
                      refine wpAnyH_ready (rs := [27]) (by kernel_rfl) (by simp) ?_
                      refine AllReadyH.cons (i := 27) (o := ⟨none, _, _, _, _, _⟩) rfl (fun K hK => ?_) AllReadyH.nil
                      refine step_set rfl 39 (.tmp 125) (.tmp 121) rfl Try.sizeU32 G k (by rfl) .u32 (r : Int) (by rfl) _ 51 hg4.out (by rw [List.length_set, List.length_set, u32v_len, HYL.out]; exact lk) wr hb4 ?_
                      intro w5 hg5 hb5
                      refine hK.out _ _ (trivial) (fun hHeld => ?_)
                      clear hK K
                      try simp only [Act.put]
                      refine wpAnyH_take (i := 28) (oi := ⟨(some 126), _, _, _, _, _⟩) (v := ?vq2_24) rfl (by kernel_rfl) (by kernel_rfl) (by kernel_rfl) (fun _ _ _ h => h) (Or.inl ⟨by rfl, ?yq2_24⟩) hHeld ?_
                      case yq2_24 => (intro W0 hSw; go_simp; try with_reducible rfl)
                      try simp only [Act.put, List.setIfInBounds_toArray, List.set_cons_zero, List.set_cons_succ]
                      refine wpAnyH_ready (rs := [29]) (by kernel_rfl) (by simp) ?_
                      refine AllReadyH.cons (i := 29) (o := ⟨none, _, _, _, _, _⟩) rfl (fun K hK => ?_) AllReadyH.nil
                      refine step_set rfl 39 (.tmp 126) (.tmp 122) rfl Try.sizeU32 G m (by rfl) .u32 (s : Int) (by rfl) _ 51 hg5.out (by rw [List.length_set, List.length_set, List.length_set, u32v_len, HYL.out]; exact lm) wr hb5 ?_
                      intro w6 hg6 hb6
                      refine hK.out _ _ (trivial) (fun hHeld => ?_)
                      clear hK K
                      try simp only [Act.put]
                      refine wpAnyH_done (by kernel_rfl) ?_ _
                      have hg7 : Hid (w6.heap[G]? = some (.cells (u32v (half Z 1 (n + 1))).toArray 51 (0, 0))) := by
                        have h1 := hg6.out
                        rw [u32v_set, u32v_set, u32v_set, u32v_set, ← HQ.out p q r s hqr.out, ← HH.out] at h1
                        exact h1
                      clear hg3 hg4 hg5 hg6 hb3 hb4 hb5 c0 c1 c2 c3
                      go_wp2
                      go_roundw
                      case rel => exact ⟨n + 1, by omega, by go_num, hg7, hbn.trans hb6⟩
                      case measure => simp [intOf]; omega
                    · have hgf : Hid (wr.heap[G]? = some (.cells (u32v (rounds F (r + 1))).toArray 51 (0, 0))) := by
                        have h1 := hgn.out
                        rw [show n = 4 by omega, ← HX.out] at h1
                        exact h1
                      go_wp2
                      go_roundw
                      case rel => exact ⟨r + 1, by omega, by go_num, hgf, hbn⟩
                      case measure => simp [intOf]; omega
            · obtain ⟨M, hM⟩ : ∃ M, M = rounds F r := ⟨_, rfl⟩
              rw [← hM] at hgr
              have HML := Lib.hid (show M.length = 16 by rw [hM, rounds_len]; exact HFL.out)
              have hMs : small32 M := by rw [hM]; exact rounds_small F hFs r
              have HM := vlt (show blockOf key count nonce = outw M F 16 by rw [blockOf, ← HF.out, hM, show r = 10 by omega])
              have HZ64 := Lib.hid (show (bv z64).toArray.size = 64 from rfl)
              have hsz1 := hbr.size
              have hgF3 : Hid (wr.heap[W.heap.size]? = some (.cells (u32v F).toArray 51 (0, 0))) := (hbr.block _ (by omega) (by intro e; injection e; omega)).trans hgF2.out
              have hbw : Below W.heap.size W wr := But.below hbV hbr (by omega) (by omega)
              clear hM
              go_upto_region 25 with (first
                | (with_reducible refine wpList_build_to rfl 40 _ rfl [] (by rfl) _ built_blk ?_)
                | ((with_reducible refine wpList_store_row rfl 40 (.tmp 17) (.tmp 127) rfl wr.heap.size (bv z64).toArray rfl rfl 40 _ (heap_alloc_new _ _) (by rw [HZ64.out]; kernel_rfl) (by rw [HZ64.out]) (all_oneCell_toArray (bv_one _)) ?_); rw [World.setRow_alloc_new]))
              have hg17 : Hid ((wr.alloc (.cells (bv z64).toArray 40)).heap[wr.heap.size]? = some (.cells (bv (uptoB 64 (outw M F 0))).toArray 40 (0, 0))) := by
                show _ = _
                rw [show uptoB 64 (outw M F 0) = z64 from rfl]; exact heap_alloc_new _ _
              have hg10' : Hid ((wr.alloc (.cells (bv z64).toArray 40)).heap[G]? = some (.cells (u32v M).toArray 51 (0, 0))) := (Below.heap_alloc _ _ _ (by omega)).trans hgr.out
              have hg7' : Hid ((wr.alloc (.cells (bv z64).toArray 40)).heap[W.heap.size]? = some (.cells (u32v F).toArray 51 (0, 0))) := (Below.heap_alloc _ _ _ (by omega)).trans hgF3.out
              have hbv : Below W.heap.size W (wr.alloc (.cells (bv z64).toArray 40)) := hbw.alloc (by omega) _
              have hsv : wr.heap.size < (wr.alloc (.cells (bv z64).toArray 40)).heap.size := by simp
              generalize wr.alloc (.cells (bv z64).toArray 40) = V2 at *
              obtain ⟨T, hT⟩ : ∃ T, T = wr.heap.size := ⟨_, rfl⟩
              have hGT : G < T := by omega
              have hWT : W.heap.size < T := by omega
              rw [← hT] at hg17 hsv ⊢
              clear hT hr hlt hgr hbr hgF3 hbw hgF2 hbV hsV hsz1
              generalize decide ((r : Int) < 10) = d5
              go_wp2
              go_loopw [18] (fun i wt => ∃ j : Nat, j ≤ 16 ∧ i = .int .i64 (j : Int) ∧ Hid (wt.heap[T]? = some (.cells (bv (uptoB 64 (outw M F j))).toArray 40 (0, 0))) ∧ But T V2 wt) (fun i _ => 16 - (intOf i).toNat)
              case atStart => exact ⟨0, by omega, rfl, hg17, But.refl _ _⟩
              case round =>
                clear hg17
                obtain ⟨j, hj, rfl, hg9, hb⟩ := hrel
                have hsz : T < wr.heap.size := (Array.getElem?_eq_some_iff.1 hg9.out).1
                have hgx : Hid (wr.heap[G]? = some (.cells (u32v M).toArray 51 (0, 0))) := (hb.block _ (by omega) (by intro e; injection e; omega)).trans hg10'.out
                have hgs : Hid (wr.heap[W.heap.size]? = some (.cells (u32v F).toArray 51 (0, 0))) := (hb.block _ (by omega) (by intro e; injection e; omega)).trans hg7'.out
                by_cases hlt : j < 16
                · have hcx := word_at hgx.out j (by rw [HML.out]; exact hlt)
                  have hcs := word_at hgs.out j (by rw [HFL.out]; exact hlt)
                  have hcut := cut_l Try.underlying40 Try.sizeByte T 0 (4 * j) (4 * (j : Int)) (by omega) (by omega)
                  rw [Nat.zero_add] at hcut
                  have hwr : IntKind.i64.wrap (4 * (j : Int)) = 4 * (j : Int) := IntWalk.i64_in _ (by omega)
                  have HO := vlt (show outw M F (j + 1) = outw M F j ++ le ((natAt M j + natAt F j) % 4294967296) 4 from rfl)
                  generalize natAt M j = m0 at *
                  generalize natAt F j = f0 at *
                  obtain ⟨s, hs⟩ : ∃ s, s = (m0 + f0) % 4294967296 := ⟨_, rfl⟩
                  rw [← hs] at HO
                  have hws : IntKind.u32.wrap ((m0 : Int) + (f0 : Int)) = (s : Int) := by rw [hs]; simp [IntKind.wrap, IntKind.bits, IntKind.signed]
                  have ls : s < 4294967296 := by rw [hs]; exact Nat.mod_lt _ (by decide)
                  have hwu : IntKind.u64.wrap (s : Int) = (s : Int) := IntWalk.u64_in _ (by omega)
                  have ij : (j : Int) < 16 := by omega
                  have HP := Lib.hid (show (uptoB 64 (outw M F j)).length = 64 from uptoB_len 64 _ (by rw [outw_len]; omega))
                  clear hs
                  go_wp2_with fail
                  refine wp_region_held_drew (S := (fun W' => Below T wr W' ∧ W'.cell? ⟨G, j, none⟩ = some (.int .u32 (m0 : Int)) ∧ W'.cell? ⟨W.heap.size, j, none⟩ = some (.int .u32 (f0 : Int)))) (by kernel_rfl) (⟨(Below.refl _ _).drew, hcx, hcs⟩) (fun hHeld => ?_)
                  refine wpAnyH_take (i := 0) (oi := ⟨(some 132), _, _, _, _, _⟩) (v := ?vq3_0) rfl (by kernel_rfl) (by kernel_rfl) (by kernel_rfl) (fun _ _ _ h => h) (Or.inl ⟨by rfl, ?yq3_0⟩) hHeld ?_
                  case yq3_0 => (intro W0 hSw; go_simp; try with_reducible rfl)
                  try simp only [Act.put, List.setIfInBounds_toArray, List.set_cons_zero, List.set_cons_succ]
                  refine wpAnyH_take (i := 1) (oi := ⟨(some 133), _, _, _, _, _⟩) (v := ?vq3_1) rfl (by kernel_rfl) (by kernel_rfl) (by kernel_rfl) (fun _ _ _ h => h) (Or.inl ⟨by rfl, ?yq3_1⟩) hHeld ?_
                  case yq3_1 => (intro W0 hSw; go_simp; try with_reducible rfl)
                  try simp only [Act.put, List.setIfInBounds_toArray, List.set_cons_zero, List.set_cons_succ]
                  refine wpAnyH_take (i := 2) (oi := ⟨(some 134), _, _, _, _, _⟩) (v := ?vq3_2) rfl (by kernel_rfl) (by kernel_rfl) (by kernel_rfl) (fun _ _ _ h => h) (Or.inl ⟨by rfl, ?yq3_2⟩) hHeld ?_
                  case yq3_2 => (intro W0 hSw; go_simp; try with_reducible rfl)
                  try simp only [Act.put, List.setIfInBounds_toArray, List.set_cons_zero, List.set_cons_succ]
                  refine wpAnyH_take (i := 3) (oi := ⟨(some 135), _, _, _, _, _⟩) (v := ?vq3_3) rfl (by kernel_rfl) (by kernel_rfl) (by kernel_rfl) (fun _ _ _ h => h) (Or.inl ⟨by rfl, ?yq3_3⟩) hHeld ?_
                  case yq3_3 => (intro W0 hSw; go_simp; try with_reducible rfl)
                  try simp only [Act.put, List.setIfInBounds_toArray, List.set_cons_zero, List.set_cons_succ]
                  refine wpAnyH_take (i := 4) (oi := ⟨(some 136), _, _, _, _, _⟩) (v := ?vq3_4) rfl (by kernel_rfl) (by kernel_rfl) (by kernel_rfl) (fun _ _ _ h => h) (Or.inl ⟨by rfl, ?yq3_4⟩) hHeld ?_
                  case yq3_4 => (intro W0 hSw; go_simp; try with_reducible rfl)
                  try simp only [Act.put, List.setIfInBounds_toArray, List.set_cons_zero, List.set_cons_succ]
                  refine wpAnyH_take (i := 5) (oi := ⟨(some 137), _, _, _, _, _⟩) (v := ?vq3_5) rfl (by kernel_rfl) (by kernel_rfl) (by kernel_rfl) (fun _ _ _ h => h) (Or.inl ⟨by rfl, ?yq3_5⟩) hHeld ?_
                  case yq3_5 => (intro W0 hSw; go_simp; try with_reducible rfl)
                  try simp only [Act.put, List.setIfInBounds_toArray, List.set_cons_zero, List.set_cons_succ]
                  refine wpAnyH_take (i := 6) (oi := ⟨(some 138), _, _, _, _, _⟩) (v := ?vq3_6) rfl (by kernel_rfl) (by kernel_rfl) (by kernel_rfl) (fun _ _ _ h => h) (Or.inl ⟨by rfl, ?yq3_6⟩) hHeld ?_
                  case yq3_6 => (intro W0 hSw; go_simp; try with_reducible rfl)
                  try simp only [Act.put, List.setIfInBounds_toArray, List.set_cons_zero, List.set_cons_succ]
                  refine wpAnyH_take (i := 7) (oi := ⟨(some 139), _, _, _, _, _⟩) (v := ?vq3_7) rfl (by kernel_rfl) (by kernel_rfl) (by kernel_rfl) (fun _ _ _ h => h) (Or.inl ⟨by rfl, ?yq3_7⟩) hHeld ?_
                  case yq3_7 => (intro W0 hSw; go_simp; try with_reducible rfl)
                  try simp only [Act.put, List.setIfInBounds_toArray, List.set_cons_zero, List.set_cons_succ]
                  refine wpAnyH_take (i := 8) (oi := ⟨(some 140), _, _, _, _, _⟩) (v := ?vq3_8) rfl (by kernel_rfl) (by kernel_rfl) (by kernel_rfl) (fun _ _ _ h => h) (Or.inl ⟨by rfl, ?yq3_8⟩) hHeld ?_
                  case yq3_8 => (intro W0 hSw; go_simp; try with_reducible rfl)
                  try simp only [Act.put, List.setIfInBounds_toArray, List.set_cons_zero, List.set_cons_succ]
                  refine wpAnyH_take (i := 9) (oi := ⟨(some 141), _, _, _, _, _⟩) (v := ?vq3_9) rfl (by kernel_rfl) (by kernel_rfl) (by kernel_rfl) (fun _ _ _ h => h) (Or.inl ⟨by rfl, ?yq3_9⟩) hHeld ?_
                  case yq3_9 => (intro W0 hSw; go_simp; try with_reducible rfl)
                  try simp only [Act.put, List.setIfInBounds_toArray, List.set_cons_zero, List.set_cons_succ]
                  refine wpAnyH_take (i := 10) (oi := ⟨(some 142), _, _, _, _, _⟩) (v := ?vq3_10) rfl (by kernel_rfl) (by kernel_rfl) (by kernel_rfl) (fun _ _ _ h => h) (Or.inl ⟨by rfl, ?yq3_10⟩) hHeld ?_
                  case yq3_10 => (intro W0 hSw; go_simp; try with_reducible rfl)
                  try simp only [Act.put, List.setIfInBounds_toArray, List.set_cons_zero, List.set_cons_succ]
                  refine wpAnyH_ready (rs := [11]) (by kernel_rfl) (by simp) ?_
                  refine AllReadyH.cons (i := 11) (o := ⟨(some 143), _, _, _, _, _⟩) rfl (fun K hK => ?_) AllReadyH.nil
                  go_simp
                  with_reducible refine (refLittle4n s _ ls).mono ?_
                  rintro e w6 ⟨A6, c6, rfl, hr6, hb6⟩
                  have hb6' : Below T wr w6 := below_next hHeld.1 (by simp; omega) hb6
                  have hgW : Hid (w6.heap[T]? = some (.cells (bv (uptoB 64 (outw M F j))).toArray 40 (0, 0))) := (hb6.block _ (by simp; omega)).trans hg9.out
                  refine hK.out _ _ (⟨hb6', (hb6'.cell (p := ⟨G, j, none⟩) (by simp; omega)).trans hcx, (hb6'.cell (p := ⟨W.heap.size, j, none⟩) (by simp; omega)).trans hcs⟩) (fun hHeld => ?_)
                  clear hK K
                  try simp only [Act.put, List.setIfInBounds_toArray, List.set_cons_zero, List.set_cons_succ]
                  refine wpAnyH_ready (rs := [12]) (by kernel_rfl) (by simp) ?_
                  refine AllReadyH.cons (i := 12) (o := ⟨(some 144), _, _, _, _, _⟩) rfl (fun K hK => ?_) AllReadyH.nil
                  refine step_copy_but rfl (.tmp 134) (.tmp 143) 26 rfl 5 Try.underlying26 Try.sizeByte T (4 * j) (64 - 4 * j) (64 - 4 * j) 4 c6 A6 (by rfl) (by rfl) (bv (uptoB 64 (outw M F j))) 40 hgW.out (le s 4) w6.heap.size hr6.byt (le_len _ _) (by decide) (by rw [bv_len, HP.out]; omega) w6 (But.refl _ _) ?_
                  intro w7 hg18 hb7
                  have hb7' : Below T wr w7 := But.below hb6' hb7 (Nat.le_refl _) (by have := hb6.size; simp at this; omega)
                  refine hK.out _ _ (⟨hb7', (hb7'.cell (p := ⟨G, j, none⟩) (by simp; omega)).trans hcx, (hb7'.cell (p := ⟨W.heap.size, j, none⟩) (by simp; omega)).trans hcs⟩) (fun hHeld => ?_)
                  clear hK K
                  try simp only [Act.put, List.setIfInBounds_toArray, List.set_cons_zero, List.set_cons_succ]
                  refine wpAnyH_done (by kernel_rfl) ?_ _
                  have hg11 : Hid (w7.heap[T]? = some (.cells (bv (uptoB 64 (outw M F (j + 1)))).toArray 40 (0, 0))) := by
                    have h1 := hg18.out
                    have h2 := uptoB_splice 64 (outw M F j) (le s 4) (by rw [outw_len, le_len]; omega)
                    rw [outw_len] at h2
                    rw [List.take_of_length_le (by rw [le_len]; omega), h2, ← HO.out] at h1
                    exact h1
                  have hb8 : But T V2 w7 := hb.trans ((But.of_below (below_undrew hb6) (Nat.le_refl _)).trans hb7)
                  clear hg18 hgW hcx hcs hcut HO
                  go_wp2
                  go_roundw
                  case rel => exact ⟨j + 1, by omega, by go_num, hg11, hb8⟩
                  case measure => simp [intOf]; omega
                · have HJ := Lib.hid (show j = 16 by omega)
                  have HOUT := vlt (show uptoB 64 (outw M F j) = blockOf key count nonce by rw [HJ.out, uptoB_all 64 _ (outw_len _ _ _), HM.out])
                  have H64 := Lib.hid (show (bv (uptoB 64 (outw M F j))).toArray.size = 64 by simp [bv_len, uptoB_len 64 (outw M F j) (by rw [outw_len]; omega)])
                  have hbw5 : Below W.heap.size W wr := But.below hbv hb (by omega) (by omega)
                  have hz4 : Hid (wr.heap[w.heap.size + 2]? = some (.cells (bv z64).toArray 40 (0, 0))) := (hbw5.block _ hsW2).trans hgZ.out
                  have hb4 : Below w.heap.size w wr := hbW.trans (hbw5.mono (by omega))
                  obtain ⟨out, hout⟩ : ∃ out, out = uptoB 64 (outw M F j) := ⟨_, rfl⟩
                  rw [← hout] at HOUT H64 hg9
                  clear hout
                  go_wp2_with (first
                    | (with_reducible refine wpList_load_row rfl 40 (.tmp 17) rfl T rfl 40 (bv out).toArray (0, 0) _ hg9.out Try.underlying40 rfl (by rw [H64.out]; kernel_rfl) ?_)
                    | (with_reducible refine wpList_store_row rfl 40 (.tmp 6) (.tmp 145) rfl (w.heap.size + 1 + 1) (bv out).toArray rfl rfl 40 _ hz4.out (by rw [H64.out]; kernel_rfl) (by rw [H64.out]; exact HZ64.out) (all_oneCell_toArray (bv_one _)) ?_))
                  refine bodyPost_ret (v := .agg (bv out).toArray) (results_cell_row Try.results17 _ _ (w.heap.size + 1 + 1) 40 _ (0, 0) _ rfl (setRow_heap _ _ _ _ _ _ hz4.out) Try.underlying40 rfl (by rw [H64.out]; kernel_rfl)) rfl ⟨by rw [HOUT.out], below_setRow hb4 (by omega) _⟩
end Go.Proofs.Ytkeejkhapmcanaa
namespace Go.Proofs.Ytkeejkhapmcanaa
open Go.RowKit

theorem refBlock_ex (w : World) (key nonce : List UInt8) (count : Nat) (hk : key.length = 32) (hn : nonce.length = 12) (hc : count < 4294967296) :
    Calls Try.prog 17 #[.agg (bv key).toArray, .int .u32 (count : Int), .agg (bv nonce).toArray] w fun e w' => ∃ l, e = .returned (.agg (bv l).toArray) ∧ Vlt (l = blockOf key count nonce) ∧ Hid (l.length = 64) ∧ Below w.heap.size w w' :=
  (refBlock_any w key nonce count hk hn hc).mono fun _ _ h => ⟨_, h.1, vlt rfl, blockOf_len _ _ _, h.2⟩

set_option maxRecDepth 100000 in
theorem refCxor_no (w : World) (key nonce : List UInt8) (count : Nat) (A : Option Addr) (n c : Nat) (hc : count < 4294967296) (hn : n ≤ 300) (hbig : 4294967296 < count + nblk n) :
    Calls Try.prog 16 #[.agg (bv key).toArray, .int .u32 (count : Int), .agg (bv nonce).toArray, .slice A n c] w fun e w' => e = .returned (.tuple #[.slice none 0 0, .bool false]) ∧ Below w.heap.size w w' := by
  have hb' : (4294967296 : Int) < (count : Int) + ((n : Int) + 63) / 64 := by unfold nblk at hbig; omega
  obtain ⟨W, hW, hgK, hgN, hbW, hsW⟩ := pair_new w (bv key).toArray (bv nonce).toArray 24 25
  have HW := Lib.hid hW
  clear hW hbig
  go_enter Try.func16, Try.ntmps16
  go_upto_region 1 with fail
  rw [HW.out]
  go_wp2
  go_ret2
  exact ⟨rfl, hbW⟩

set_option maxRecDepth 100000 in
set_option maxHeartbeats 1000000 in
theorem refCxor_ok (w : World) (key nonce b : List UInt8) (count : Nat) (A : Option Addr) (n c : Nat) (hk : key.length = 32) (hnn : nonce.length = 12) (hc : count < 4294967296) (hb : Byt w w.heap.size A b) (hl : b.length = n) (hcap : n ≤ c) (hn : n ≤ 300)
    (hfit : count + nblk n ≤ 4294967296) :
    Calls Try.prog 16 #[.agg (bv key).toArray, .int .u32 (count : Int), .agg (bv nonce).toArray, .slice A n c] w fun e w' => ∃ A' c', e = .returned (.tuple #[.slice A' n c', .bool true]) ∧ Res w' w.heap.size 5 A' n c' (xorOf key count nonce b) ∧ Below w.heap.size w w' := by
  have hzb := zero_b64
  have hfit' : ¬ (4294967296 : Int) < (count : Int) + ((n : Int) + 63) / 64 := by unfold nblk at hfit; omega
  have HFIT := Lib.hid hfit
  have HK := Lib.hid hk
  have HN := Lib.hid hnn
  have HL := Lib.hid hl
  have HKS := Lib.hid (show (bv key).toArray.size = 32 by simp [bv_len, hk])
  have HNS := Lib.hid (show (bv nonce).toArray.size = 12 by simp [bv_len, hnn])
  clear hk hnn hl hfit
  obtain ⟨W, hW, hgK, hgN, hbW, hsW⟩ := pair_new w (bv key).toArray (bv nonce).toArray 24 25
  have HW := Lib.hid hW
  have hbb := hb.below hbW
  have hsW1 : w.heap.size < W.heap.size := by have := hsW.out; omega
  have hsW2 : w.heap.size + 1 < W.heap.size := by have := hsW.out; omega
  clear hW
  go_enter Try.func16, Try.ntmps16
  go_upto_region 1 with fail
  rw [HW.out]
  go_wp2
  go_loopw [10, 11] (fun s i wr => ∃ (k t m : Nat) (A' : Option Addr) (c' : Nat), i = .int .i64 (t : Int) ∧ s = .slice A' m c' ∧ Hid (t = 64 * k) ∧ Hid (m = min n (64 * k)) ∧ m ≤ n ∧ Hid (k ≤ nblk n) ∧ Res wr W.heap.size 5 A' m c' (xr b (streamOf key count nonce k)) ∧ Below W.heap.size W wr) (fun _ i _ => n + 64 - (intOf i).toNat)
  case atStart => exact ⟨0, 0, 0, none, 0, rfl, rfl, rfl, show _ = _ by omega, by omega, Nat.zero_le _, by have h := World.ownsRow_nil W W.heap.size 5 1; simpa [streamOf, xr, Res, bv] using h, Below.refl _ _⟩
  case round =>
    obtain ⟨k, t, m, A', c', rfl, rfl, hT, hm, hmn, hkn, hres, hbel⟩ := hrel
    have hsr := hbel.size
    have htb : t ≤ 384 := by have h1 := hT.out; have h2 := hkn.out; unfold nblk at h2; omega
    by_cases hlt : t < n
    · have hmt : t = m := by have h1 := hm.out; have h2 := hT.out; omega
      have HT := hT
      subst hmt
      have hk1 : k + 1 ≤ nblk n := by have := HT.out; unfold nblk; omega
      have HK1 := Lib.hid hk1
      obtain ⟨cv, hcv⟩ : ∃ cv, cv = (count + k) % 4294967296 := ⟨_, rfl⟩
      have lcv : cv < 4294967296 := by rw [hcv]; exact Nat.mod_lt _ (by decide)
      have E0 : count + k < 4294967296 := by have := HFIT.out; omega
      have E1 := Lib.hid (show (count : Int) + (t : Int) / 64 = (cv : Int) by have := HT.out; omega)
      have E2 := Lib.hid (show ((count : Int) + (t : Int) / 64) % 4294967296 = (cv : Int) by have := HT.out; omega)
      have E3 := Lib.hid (show ((count : Int) + (t : Int) / 64 % 4294967296) % 4294967296 = (cv : Int) by have := HT.out; omega)
      have HCV := vlt hcv
      clear hcv hk1 hm
      have hgKr : Hid (wr.heap[w.heap.size]? = some (.cells (bv key).toArray 24 (0, 0))) := (hbel.block _ hsW1).trans hgK.out
      have hgNr : Hid (wr.heap[w.heap.size + 1]? = some (.cells (bv nonce).toArray 25 (0, 0))) := (hbel.block _ hsW2).trans hgN.out
      have hblk := refBlock_ex wr key nonce cv HK.out HN.out lcv
      go_wp2_with (first
        | (with_reducible refine wpList_load_row rfl 24 (.tmp 4) rfl w.heap.size rfl 24 (bv key).toArray (0, 0) _ hgKr.out Try.underlying24 rfl (by rw [HKS.out]; kernel_rfl) ?_)
        | (with_reducible refine wpList_load_row rfl 25 (.tmp 6) rfl (w.heap.size + 1) rfl 25 (bv nonce).toArray (0, 0) _ hgNr.out Try.underlying25 rfl (by rw [HNS.out]; kernel_rfl) ?_))
      first
        | rw [E3.out]
        | rw [E2.out]
        | rw [E1.out]
      refine hblk.mono ?_
      rintro e w2 ⟨bl, rfl, hbl, hbll, hb2⟩
      clear hblk hgKr hgNr E0
      have HBS := Lib.hid (show (bv bl).toArray.size = 64 by simp [bv_len, hbll.out])
      have HZ64 := Lib.hid (show (bv z64).toArray.size = 64 from rfl)
      go_upto_region 8 with ((with_reducible refine wpList_store_row rfl 40 (.tmp 12) (.tmp 36) rfl w2.heap.size (bv bl).toArray rfl rfl 40 _ (heap_alloc_new _ _) (by rw [HBS.out]; kernel_rfl) (by rw [HBS.out]; exact HZ64.out) (all_oneCell_toArray (bv_one _)) ?_); rw [World.setRow_alloc_new])
      have hg3 : Hid ((w2.alloc (.cells (bv bl).toArray 40)).heap[w2.heap.size]? = some (.cells (bv bl).toArray 40 (0, 0))) := heap_alloc_new _ _
      have hb3 : Below wr.heap.size wr (w2.alloc (.cells (bv bl).toArray 40)) := hb2.alloc hb2.size _
      generalize w2.alloc (.cells (bv bl).toArray 40) = w3 at *
      have hres3 := hres.keep hb3
      have hbel3 : Below W.heap.size W w3 := hbel.trans (hb3.mono hsr)
      have hcuts := cut_all Try.underlying40 Try.sizeByte w2.heap.size 0 (by decide)
      have hbs := byt_row hg3.out
      have HSTR := vlt (show xr b (streamOf key count nonce (k + 1)) = xr b (streamOf key count nonce k) ++ xr (b.drop t) bl by rw [streamOf, ← HCV.out, ← hbl.out, xr_app, streamOf_len, ← HT.out])
      clear hres hbel hb3 hg3 E1 E2 E3
      by_cases h64 : t + 64 < n
      · have hq0 : 0 < 64 := by omega
        have hcutb := run_cut_lh Try.underlying26 Try.sizeByte A n c t (t + 64) (t : Int) ((t : Int) + 64) rfl (by omega) (by omega) (by omega)
        rw [show t + 64 - t = 64 by omega] at hcutb
        have hwr : IntKind.i64.wrap ((t : Int) + 64) = (t : Int) + 64 := IntWalk.i64_in _ (by omega)
        have hgt : (64 : Int) < (n : Int) - (t : Int) := by omega
        have hbt := (((((hbb.up (by omega : w.heap.size ≤ W.heap.size)).below hbel3).cut t c (by rw [HL.out]; exact hcap)).take 64).up hbel3.size)
        generalize (if c = t then A else A.map (·.add t)) = A4 at *
        have hx := refXor_core A4 (some ⟨w2.heap.size, 0, none⟩) ((b.drop t).take 64) bl 64 64 (c - t) 64 64 w3.drew hbt hbs (by rw [List.length_take, List.length_drop, HL.out]; omega) hbll.out (by omega) (by decide) (by omega)
        have HXR := vlt (show xr ((b.drop t).take 64) bl = xr (b.drop t) bl by exact xr_take _ _ _ (by rw [hbll.out]; exact Nat.le_refl _))
        have HQ := Lib.hid (show t + 64 = min n (64 * (k + 1)) by have := HT.out; omega)
        clear hbt
        go_upto_region 11 with fail
        refine wp_region_held_drew (S := (fun _ => True)) (by kernel_rfl) (trivial) (fun hHeld => ?_)
        refine wpAnyH_take (i := 0) (oi := ⟨(some 43), _, _, _, _, _⟩) (v := ?vq1_0) rfl (by kernel_rfl) (by kernel_rfl) (by kernel_rfl) (fun _ _ _ h => h) (Or.inl ⟨by rfl, ?yq1_0⟩) hHeld ?_
        case yq1_0 => (intro W0 hSw; go_simp; try with_reducible rfl)
        try simp only [Act.put, List.setIfInBounds_toArray, List.set_cons_zero, List.set_cons_succ]
        refine wpAnyH_take (i := 1) (oi := ⟨(some 44), _, _, _, _, _⟩) (v := ?vq1_1) rfl (by kernel_rfl) (by kernel_rfl) (by kernel_rfl) (fun _ _ _ h => h) (Or.inl ⟨by rfl, ?yq1_1⟩) hHeld ?_
        case yq1_1 => (intro W0 hSw; go_simp; try with_reducible rfl)
        try simp only [Act.put, List.setIfInBounds_toArray, List.set_cons_zero, List.set_cons_succ]
        refine wpAnyH_take (i := 2) (oi := ⟨(some 45), _, _, _, _, _⟩) (v := ?vq1_2) rfl (by kernel_rfl) (by kernel_rfl) (by kernel_rfl) (fun _ _ _ h => h) (Or.inl ⟨by rfl, ?yq1_2⟩) hHeld ?_
        case yq1_2 => (intro W0 hSw; go_simp; try with_reducible rfl)
        try simp only [Act.put, List.setIfInBounds_toArray, List.set_cons_zero, List.set_cons_succ]
        refine wpAnyH_take (i := 3) (oi := ⟨(some 46), _, _, _, _, _⟩) (v := ?vq1_3) rfl (by kernel_rfl) (by kernel_rfl) (by kernel_rfl) (fun _ _ _ h => h) (Or.inl ⟨by rfl, ?yq1_3⟩) hHeld ?_
        case yq1_3 => (intro W0 hSw; go_simp; try with_reducible rfl)
        try simp only [Act.put, List.setIfInBounds_toArray, List.set_cons_zero, List.set_cons_succ]
        refine wpAnyH_take (i := 4) (oi := ⟨(some 47), _, _, _, _, _⟩) (v := ?vq1_4) rfl (by kernel_rfl) (by kernel_rfl) (by kernel_rfl) (fun _ _ _ h => h) (Or.inl ⟨by rfl, ?yq1_4⟩) hHeld ?_
        case yq1_4 => (intro W0 hSw; go_simp; try with_reducible rfl)
        try simp only [Act.put, List.setIfInBounds_toArray, List.set_cons_zero, List.set_cons_succ]
        refine wpAnyH_take (i := 5) (oi := ⟨(some 48), _, _, _, _, _⟩) (v := ?vq1_5) rfl (by kernel_rfl) (by kernel_rfl) (by kernel_rfl) (fun _ _ _ h => h) (Or.inl ⟨by rfl, ?yq1_5⟩) hHeld ?_
        case yq1_5 => (intro W0 hSw; go_simp; try with_reducible rfl)
        try simp only [Act.put, List.setIfInBounds_toArray, List.set_cons_zero, List.set_cons_succ]
        refine wpAnyH_take (i := 6) (oi := ⟨(some 49), _, _, _, _, _⟩) (v := ?vq1_6) rfl (by kernel_rfl) (by kernel_rfl) (by kernel_rfl) (fun _ _ _ h => h) (Or.inl ⟨by rfl, ?yq1_6⟩) hHeld ?_
        case yq1_6 => (intro W0 hSw; go_simp; try with_reducible rfl)
        try simp only [Act.put, List.setIfInBounds_toArray, List.set_cons_zero, List.set_cons_succ]
        refine wpAnyH_take (i := 7) (oi := ⟨(some 50), _, _, _, _, _⟩) (v := ?vq1_7) rfl (by kernel_rfl) (by kernel_rfl) (by kernel_rfl) (fun _ _ _ h => h) (Or.inl ⟨by rfl, ?yq1_7⟩) hHeld ?_
        case yq1_7 => (intro W0 hSw; go_simp; try with_reducible rfl)
        try simp only [Act.put, List.setIfInBounds_toArray, List.set_cons_zero, List.set_cons_succ]
        refine wpAnyH_ready (rs := [8]) (by kernel_rfl) (by simp) ?_
        refine AllReadyH.cons (i := 8) (o := ⟨(some 51), _, _, _, _, _⟩) rfl (fun K hK => ?_) AllReadyH.nil
        go_simp
        refine hx.mono ?_
        rintro e w6 ⟨A6, c6, rfl, hr6, hb6⟩
        obtain ⟨g6, rfl⟩ := hr6.some_ hq0
        refine hK.out _ _ (trivial) (fun hHeld => ?_)
        clear hK K
        try simp only [Act.put, List.setIfInBounds_toArray, List.set_cons_zero, List.set_cons_succ]
        have hres6 := hres3.keep (w' := w6) (below_undrew hb6)
        rw [HXR.out] at hr6
        have hcl6 := cells_at hr6.byt
        refine wpAnyH_ready (rs := [9]) (by kernel_rfl) (by simp) ?_
        refine AllReadyH.cons (i := 9) (o := ⟨(some 52), _, _, _, _, _⟩) rfl (fun K hK => ?_) AllReadyH.nil
        refine step_append_bytes w6 rfl (.tmp 43) (.tmp 51) 26 rfl 5 Try.underlying26 Try.infoByte W.heap.size A' t c' _ (by rfl) hres6 ⟨g6, 0, none⟩ (64) c6 (by rfl) (xr (b.drop t) bl) hr6.len hcl6 (by omega) (by have h1 := hb6.size; have h2 := hbel3.size; exact Nat.le_trans h2 h1) ?_
        intro A7 c7 w7 hr7 hb7f
        refine hK.out _ _ (trivial) (fun hHeld => ?_)
        clear hK K
        try simp only [Act.put, List.setIfInBounds_toArray, List.set_cons_zero, List.set_cons_succ]
        refine wpAnyH_take (i := 10) (oi := ⟨(some 10), _, _, _, _, _⟩) (v := ?vq1_8) rfl (by kernel_rfl) (by kernel_rfl) (by kernel_rfl) (fun _ _ _ h => h) (Or.inl ⟨by rfl, ?yq1_8⟩) hHeld ?_
        case yq1_8 => (intro W0 hSw; go_simp; try with_reducible rfl)
        try simp only [Act.put, List.setIfInBounds_toArray, List.set_cons_zero, List.set_cons_succ]
        refine wpAnyH_done (by kernel_rfl) ?_ _
        have hbel7 : Below W.heap.size W w7 := hb7f _ _ (Nat.le_refl _) (hbel3.trans ((below_undrew hb6).mono hbel3.size))
        have hr8 : Res w7 W.heap.size 5 A7 (t + 64) c7 (xr b (streamOf key count nonce (k + 1))) := by rw [HSTR.out]; exact hr7
        clear hres6 hcl6 hr6 hb7f hx hres3 hbel3 hcutb hcuts hr7 hHeld hwr
        go_wp2
        go_roundw
        case rel => exact ⟨k + 1, t + 64, t + 64, A7, c7, by go_num, by first | rfl | (rw [show t + (n - t) = n by omega]), show _ = _ by have := HT.out; omega, HQ, by omega, HK1, hr8, hbel7⟩
        case measure => simp [intOf]; omega
      · have hq0 : 0 < (n - t) := by omega
        have hcutb := run_cut_lh Try.underlying26 Try.sizeByte A n c t (t + (n - t)) (t : Int) ((t : Int) + ((n : Int) - (t : Int))) rfl (by omega) (by omega) (by omega)
        rw [show t + (n - t) - t = (n - t) by omega] at hcutb
        have hwr : IntKind.i64.wrap ((t : Int) + ((n : Int) - (t : Int))) = (t : Int) + ((n : Int) - (t : Int)) := IntWalk.i64_in _ (by omega)
        have hgt : ¬ (64 : Int) < (n : Int) - (t : Int) := by omega
        have hbt := (((((hbb.up (by omega : w.heap.size ≤ W.heap.size)).below hbel3).cut t c (by rw [HL.out]; exact hcap)).take (n - t)).up hbel3.size)
        generalize (if c = t then A else A.map (·.add t)) = A4 at *
        have hx := refXor_core A4 (some ⟨w2.heap.size, 0, none⟩) ((b.drop t).take (n - t)) bl (n - t) 64 (c - t) 64 (n - t) w3.drew hbt hbs (by rw [List.length_take, List.length_drop, HL.out]; omega) hbll.out (by omega) (by decide) (by omega)
        have HXR := vlt (show xr ((b.drop t).take (n - t)) bl = xr (b.drop t) bl by rw [List.take_of_length_le (by rw [List.length_drop, HL.out]; exact Nat.le_refl _)])
        have HQ := Lib.hid (show t + (n - t) = min n (64 * (k + 1)) by have := HT.out; omega)
        clear hbt
        go_upto_region 11 with fail
        refine wp_region_held_drew (S := (fun _ => True)) (by kernel_rfl) (trivial) (fun hHeld => ?_)
        refine wpAnyH_take (i := 0) (oi := ⟨(some 43), _, _, _, _, _⟩) (v := ?vq2_0) rfl (by kernel_rfl) (by kernel_rfl) (by kernel_rfl) (fun _ _ _ h => h) (Or.inl ⟨by rfl, ?yq2_0⟩) hHeld ?_
        case yq2_0 => (intro W0 hSw; go_simp; try with_reducible rfl)
        try simp only [Act.put, List.setIfInBounds_toArray, List.set_cons_zero, List.set_cons_succ]
        refine wpAnyH_take (i := 1) (oi := ⟨(some 44), _, _, _, _, _⟩) (v := ?vq2_1) rfl (by kernel_rfl) (by kernel_rfl) (by kernel_rfl) (fun _ _ _ h => h) (Or.inl ⟨by rfl, ?yq2_1⟩) hHeld ?_
        case yq2_1 => (intro W0 hSw; go_simp; try with_reducible rfl)
        try simp only [Act.put, List.setIfInBounds_toArray, List.set_cons_zero, List.set_cons_succ]
        refine wpAnyH_take (i := 2) (oi := ⟨(some 45), _, _, _, _, _⟩) (v := ?vq2_2) rfl (by kernel_rfl) (by kernel_rfl) (by kernel_rfl) (fun _ _ _ h => h) (Or.inl ⟨by rfl, ?yq2_2⟩) hHeld ?_
        case yq2_2 => (intro W0 hSw; go_simp; try with_reducible rfl)
        try simp only [Act.put, List.setIfInBounds_toArray, List.set_cons_zero, List.set_cons_succ]
        refine wpAnyH_take (i := 3) (oi := ⟨(some 46), _, _, _, _, _⟩) (v := ?vq2_3) rfl (by kernel_rfl) (by kernel_rfl) (by kernel_rfl) (fun _ _ _ h => h) (Or.inl ⟨by rfl, ?yq2_3⟩) hHeld ?_
        case yq2_3 => (intro W0 hSw; go_simp; try with_reducible rfl)
        try simp only [Act.put, List.setIfInBounds_toArray, List.set_cons_zero, List.set_cons_succ]
        refine wpAnyH_take (i := 4) (oi := ⟨(some 47), _, _, _, _, _⟩) (v := ?vq2_4) rfl (by kernel_rfl) (by kernel_rfl) (by kernel_rfl) (fun _ _ _ h => h) (Or.inl ⟨by rfl, ?yq2_4⟩) hHeld ?_
        case yq2_4 => (intro W0 hSw; go_simp; try with_reducible rfl)
        try simp only [Act.put, List.setIfInBounds_toArray, List.set_cons_zero, List.set_cons_succ]
        refine wpAnyH_take (i := 5) (oi := ⟨(some 48), _, _, _, _, _⟩) (v := ?vq2_5) rfl (by kernel_rfl) (by kernel_rfl) (by kernel_rfl) (fun _ _ _ h => h) (Or.inl ⟨by rfl, ?yq2_5⟩) hHeld ?_
        case yq2_5 => (intro W0 hSw; go_simp; try with_reducible rfl)
        try simp only [Act.put, List.setIfInBounds_toArray, List.set_cons_zero, List.set_cons_succ]
        refine wpAnyH_take (i := 6) (oi := ⟨(some 49), _, _, _, _, _⟩) (v := ?vq2_6) rfl (by kernel_rfl) (by kernel_rfl) (by kernel_rfl) (fun _ _ _ h => h) (Or.inl ⟨by rfl, ?yq2_6⟩) hHeld ?_
        case yq2_6 => (intro W0 hSw; go_simp; try with_reducible rfl)
        try simp only [Act.put, List.setIfInBounds_toArray, List.set_cons_zero, List.set_cons_succ]
        refine wpAnyH_take (i := 7) (oi := ⟨(some 50), _, _, _, _, _⟩) (v := ?vq2_7) rfl (by kernel_rfl) (by kernel_rfl) (by kernel_rfl) (fun _ _ _ h => h) (Or.inl ⟨by rfl, ?yq2_7⟩) hHeld ?_
        case yq2_7 => (intro W0 hSw; go_simp; try with_reducible rfl)
        try simp only [Act.put, List.setIfInBounds_toArray, List.set_cons_zero, List.set_cons_succ]
        refine wpAnyH_ready (rs := [8]) (by kernel_rfl) (by simp) ?_
        refine AllReadyH.cons (i := 8) (o := ⟨(some 51), _, _, _, _, _⟩) rfl (fun K hK => ?_) AllReadyH.nil
        go_simp
        refine hx.mono ?_
        rintro e w6 ⟨A6, c6, rfl, hr6, hb6⟩
        obtain ⟨g6, rfl⟩ := hr6.some_ hq0
        refine hK.out _ _ (trivial) (fun hHeld => ?_)
        clear hK K
        try simp only [Act.put, List.setIfInBounds_toArray, List.set_cons_zero, List.set_cons_succ]
        have hres6 := hres3.keep (w' := w6) (below_undrew hb6)
        rw [HXR.out] at hr6
        have hcl6 := cells_at hr6.byt
        refine wpAnyH_ready (rs := [9]) (by kernel_rfl) (by simp) ?_
        refine AllReadyH.cons (i := 9) (o := ⟨(some 52), _, _, _, _, _⟩) rfl (fun K hK => ?_) AllReadyH.nil
        refine step_append_bytes w6 rfl (.tmp 43) (.tmp 51) 26 rfl 5 Try.underlying26 Try.infoByte W.heap.size A' t c' _ (by rfl) hres6 ⟨g6, 0, none⟩ ((n - t)) c6 (by rfl) (xr (b.drop t) bl) hr6.len hcl6 (by omega) (by have h1 := hb6.size; have h2 := hbel3.size; exact Nat.le_trans h2 h1) ?_
        intro A7 c7 w7 hr7 hb7f
        refine hK.out _ _ (trivial) (fun hHeld => ?_)
        clear hK K
        try simp only [Act.put, List.setIfInBounds_toArray, List.set_cons_zero, List.set_cons_succ]
        refine wpAnyH_take (i := 10) (oi := ⟨(some 10), _, _, _, _, _⟩) (v := ?vq2_8) rfl (by kernel_rfl) (by kernel_rfl) (by kernel_rfl) (fun _ _ _ h => h) (Or.inl ⟨by rfl, ?yq2_8⟩) hHeld ?_
        case yq2_8 => (intro W0 hSw; go_simp; try with_reducible rfl)
        try simp only [Act.put, List.setIfInBounds_toArray, List.set_cons_zero, List.set_cons_succ]
        refine wpAnyH_done (by kernel_rfl) ?_ _
        have hbel7 : Below W.heap.size W w7 := hb7f _ _ (Nat.le_refl _) (hbel3.trans ((below_undrew hb6).mono hbel3.size))
        have hr8 : Res w7 W.heap.size 5 A7 (t + (n - t)) c7 (xr b (streamOf key count nonce (k + 1))) := by rw [HSTR.out]; exact hr7
        clear hres6 hcl6 hr6 hb7f hx hres3 hbel3 hcutb hcuts hr7 hHeld hwr
        go_wp2
        go_roundw
        case rel => exact ⟨k + 1, t + 64, t + (n - t), A7, c7, by go_num, by first | rfl | (rw [show t + (n - t) = n by omega]), show _ = _ by have := HT.out; omega, HQ, by omega, HK1, hr8, hbel7⟩
        case measure => simp [intOf]; omega
    · have hmn' : m = n := by have h1 := hm.out; have h2 := hT.out; omega
      have hkk : k = nblk n := by have h1 := hT.out; have h2 := hkn.out; unfold nblk at *; omega
      have hfin : Hid (Res wr w.heap.size 5 A' n c' (xorOf key count nonce b)) := by
        have h1 := hres.base_le (B := w.heap.size) (by omega)
        rw [hmn', hkk] at h1
        rw [xorOf, HL.out]
        exact h1
      subst hmn'
      have hbw : Below w.heap.size w wr := hbW.trans (hbel.mono (by omega))
      clear hkk hm hkn hres
      go_wp2
      go_ret2
      exact ⟨_, _, rfl, hfin.out, hbw⟩
end Go.Proofs.Ytkeejkhapmcanaa
