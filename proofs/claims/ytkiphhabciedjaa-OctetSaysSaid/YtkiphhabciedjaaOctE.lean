/-
  Contracts of octet.Xor and octet.Equal. Conditions: the slices are shorter than 2^47 bytes.
-/
import Derived.Test.YtkiphhabciedjaaOctD
import Derived.Test.YtkiphhabciedjaaOctC
namespace Go.Proofs.Ytkiphhabciedjaa
open Go.RowKit

theorem fill_step (X : List UInt8) (m k : Nat) (b : UInt8) (hX : X.length = m) (hk : X[k]? = some b) :
    (X.take k ++ List.replicate (m - k) 0).set k b = X.take (k + 1) ++ List.replicate (m - (k + 1)) 0 := by
  obtain ⟨hk', rfl⟩ := List.getElem?_eq_some_iff.1 hk
  have e : m - k = (m - (k + 1)) + 1 := by omega
  have e4 : k - (X.take k).length = 0 := by simp; omega
  rw [e, List.replicate_succ, List.set_append_right _ _ (by simp; omega), e4, List.set_cons_zero, List.take_succ_eq_append_getElem hk', List.append_assoc]
  rfl

/-- Exclusive or, as long as the shorter one. -/
def xr (a b : List UInt8) : List UInt8 := List.zipWith (· ^^^ ·) a b
theorem xr_len (a b : List UInt8) : (xr a b).length = min a.length b.length := by simp [xr]
theorem xr_at (a b : List UInt8) (k x y : Nat) (hx : a[k]? = some (UInt8.ofNat x)) (hy : b[k]? = some (UInt8.ofNat y)) : (xr a b)[k]? = some (UInt8.ofNat x ^^^ UInt8.ofNat y) := by
  simp [xr, List.getElem?_zipWith, hx, hy]
theorem xor_cast (x y : Nat) (hx : x < 256) (hy : y < 256) : bits .xor .u8 (x : Int) (y : Int) = ((UInt8.ofNat x ^^^ UInt8.ofNat y).toNat : Int) := by
  rw [u8_xor_nat x y hx hy, UInt8.toNat_xor]
  simp [Nat.mod_eq_of_lt hx, Nat.mod_eq_of_lt hy]

theorem xor_core (A D : Option Addr) (a b : List UInt8) (n p c d m : Nat) (w : World) (ha : Byt w w.heap.size A a) (hb : Byt w w.heap.size D b) (hl : a.length = n) (hl2 : b.length = p) (hn : n ≤ 140737488355328) (hp : p ≤ 140737488355328)
    (hm : (m = n ∧ n ≤ p) ∨ (m = p ∧ p < n)) :
    Calls Try.prog 15 #[.slice A n c, .slice D p d] w fun e w' => ∃ A' c', e = .returned (.slice A' m c') ∧ Res w' w.heap.size 5 A' m c' (xr a b) ∧ Below w.heap.size w w' := by
  obtain ⟨i0, hi, hz0, hz1, hz2⟩ := info_parts Try.infoByte
  obtain ⟨w1, hrun, hg1, hb1, hs1⟩ := make_bytes (P := Try.prog) Try.underlying23 hi hz0 hz1 hz2 m m (m : Int) (m : Int) rfl rfl (by omega) (by omega) w
  have HL := Lib.hid hl
  have HL2 := Lib.hid hl2
  have HX : Hid ((xr a b).length = m) := show _ = _ by rw [xr_len, hl, hl2]; omega
  clear hl hl2 hi hz0 hz1 hz2
  rcases hm with ⟨rfl, h⟩ | ⟨rfl, h⟩
  all_goals
    go_enter Try.func15, Try.ntmps15
    go_wp2
    go_loopw [6, 15] (fun _ i wr => ∃ k : Nat, k ≤ m ∧ i = .int .i64 (k : Int) ∧ Res wr w.heap.size 5 (some ⟨w.heap.size, 0, none⟩) m m ((xr a b).take k ++ List.replicate (m - k) 0) ∧ Below w.heap.size w wr) (fun _ i _ => m - (intOf i).toNat)
    case atStart => exact ⟨0, Nat.zero_le _, rfl, by simpa using Res.made hg1.out (Nat.le_refl _) (by omega), hb1.out⟩
    case round =>
      obtain ⟨k, hk, rfl, hres, hbel⟩ := hrel
      by_cases hlt : k < m
      · obtain ⟨g, o, x, rfl, hg, hx, hcell, hget⟩ := (ha.below hbel).at_ (k := k) (by rw [HL.out]; omega)
        obtain ⟨g2, o2, y, rfl, hg2, hy, hcell2, hget2⟩ := (hb.below hbel).at_ (k := k) (by rw [HL2.out]; omega)
        obtain ⟨u, hu⟩ := hres.cell (j := k) (by omega)
        have hf := hres.free k
        go_wp2
        go_region
        go_wp2
        go_roundw
        case rel =>
          refine ⟨k + 1, by omega, by go_num, ?_, ((hbel.setCell (Nat.le_refl _) _).drew)⟩
          rw [← fill_step (xr a b) m k _ HX.out (xr_at a b k x y hget.out hget2.out)]
          exact hres.put _ _ _ (xor_cast x y hx hy)
        case measure => simp [intOf]; omega
      · obtain rfl : k = m := by omega
        go_wp2
        go_ret
        refine ⟨_, _, rfl, ?_, hbel⟩
        have h2 := hres
        rw [List.take_of_length_le (by rw [HX.out]; exact Nat.le_refl _)] at h2
        simpa using h2

theorem i64_or' (a b : Nat) (ha : a < 4611686018427387904) (hb : b < 4611686018427387904) : bits .or .i64 (a : Int) (b : Int) = ((a ||| b : Nat) : Int) := by
  have h1 : a ||| b < 2 ^ 62 := Nat.or_lt_two_pow (by omega) (by omega)
  show IntKind.i64.wrap ((BitVec.ofInt 64 (a : Int) ||| BitVec.ofInt 64 (b : Int)).toNat : Int) = _
  rw [BitVec.ofInt_natCast, BitVec.ofInt_natCast, BitVec.toNat_or, BitVec.toNat_ofNat, BitVec.toNat_ofNat, Nat.mod_eq_of_lt (by omega), Nat.mod_eq_of_lt (by omega), IntKind.wrap_i64]
  omega
theorem i64_xor' (a b : Nat) (ha : a < 4611686018427387904) (hb : b < 4611686018427387904) : bits .xor .i64 (a : Int) (b : Int) = ((a ^^^ b : Nat) : Int) := by
  have h1 : a ^^^ b < 2 ^ 62 := Nat.xor_lt_two_pow (by omega) (by omega)
  show IntKind.i64.wrap ((BitVec.ofInt 64 (a : Int) ^^^ BitVec.ofInt 64 (b : Int)).toNat : Int) = _
  rw [BitVec.ofInt_natCast, BitVec.ofInt_natCast, BitVec.toNat_xor, BitVec.toNat_ofNat, BitVec.toNat_ofNat, Nat.mod_eq_of_lt (by omega), Nat.mod_eq_of_lt (by omega), IntKind.wrap_i64]
  omega
theorem or_zero (a b : Nat) : (a ||| b = 0) ↔ (a = 0 ∧ b = 0) := Nat.or_eq_zero_iff
theorem xor_zero (a b : Nat) : (a ^^^ b = 0) ↔ a = b := by
  constructor
  · intro h
    have : a ^^^ b ^^^ b = 0 ^^^ b := by rw [h]
    rw [Nat.xor_assoc, Nat.xor_self, Nat.xor_zero, Nat.zero_xor] at this
    exact this
  · rintro rfl; exact Nat.xor_self a

theorem take_both {a b : List UInt8} {k x y : Nat} (hx : a[k]? = some (UInt8.ofNat x)) (hy : b[k]? = some (UInt8.ofNat y)) (h1 : x < 256) (h2 : y < 256) :
    a.take (k + 1) = b.take (k + 1) ↔ (a.take k = b.take k ∧ x = y) := by
  have hka := (List.getElem?_eq_some_iff.1 hx).1
  have hkb := (List.getElem?_eq_some_iff.1 hy).1
  rw [take_at hx, take_at hy]
  constructor
  · intro h
    obtain ⟨h3, h4⟩ := List.append_inj h (by simp; omega)
    refine ⟨h3, ?_⟩
    have h5 : (UInt8.ofNat x).toNat = (UInt8.ofNat y).toNat := by simp at h4; rw [h4]
    simpa [Nat.mod_eq_of_lt h1, Nat.mod_eq_of_lt h2] using h5
  · rintro ⟨h3, rfl⟩
    rw [h3]

theorem eql_end (a b : List UInt8) (m : Nat) (hm : (m = a.length ∧ a.length ≤ b.length) ∨ (m = b.length ∧ b.length < a.length)) : (a.length = b.length ∧ a.take m = b.take m) ↔ a = b := by
  constructor
  · rintro ⟨h1, h2⟩
    rwa [List.take_of_length_le (by omega), List.take_of_length_le (by omega)] at h2
  · rintro rfl; exact ⟨rfl, rfl⟩

theorem equal_core (A D : Option Addr) (a b : List UInt8) (n p c d m : Nat) (w : World) (ha : Byt w w.heap.size A a) (hb : Byt w w.heap.size D b) (hl : a.length = n) (hl2 : b.length = p) (hn : n ≤ 140737488355328) (hp : p ≤ 140737488355328)
    (hm : (m = n ∧ n ≤ p) ∨ (m = p ∧ p < n)) :
    Calls Try.prog 14 #[.slice A n c, .slice D p d] w fun e w' => e = .returned (.bool (decide (a = b))) ∧ ∃ q, w' = w.drewN q := by
  have HE : Hid ((n = p ∧ a.take m = b.take m) ↔ a = b) := by have := eql_end a b m (by omega); rw [hl, hl2] at this; exact this
  have HL := Lib.hid hl
  have HL2 := Lib.hid hl2
  have hx0 : bits .xor .i64 (n : Int) (p : Int) = ((n ^^^ p : Nat) : Int) := i64_xor' n p (by omega) (by omega)
  have hx1 : n ^^^ p < 281474976710656 := Nat.xor_lt_two_pow (n := 48) (by omega) (by omega)
  have hx2 : Hid ((n ^^^ p = 0) ↔ n = p) := xor_zero n p
  clear hl hl2
  generalize n ^^^ p = X0 at *
  rcases hm with ⟨rfl, h⟩ | ⟨rfl, h⟩
  all_goals
    go_enter Try.func14, Try.ntmps14
    go_wp2
    go_loopw [5, 6, 17] (fun t _ i wr => ∃ k U : Nat, k ≤ m ∧ i = .int .i64 (k : Int) ∧ t = .int .i64 (U : Int) ∧ U < 281474976710656 ∧ Hid (∃ q, wr = w.drewN q) ∧ Hid (U = 0 ↔ (X0 = 0 ∧ a.take k = b.take k))) (fun _ _ i _ => m - (intOf i).toNat)
    case atStart => exact ⟨0, X0, Nat.zero_le _, rfl, rfl, by omega, ⟨0, rfl⟩, by show _ ↔ _; simp⟩
    case round =>
      obtain ⟨k, U, hk, rfl, rfl, hU, hq, HU⟩ := hrel
      by_cases hlt : k < m
      · obtain ⟨g, o, x, rfl, hg, hx, hcell, hget⟩ := (show Byt wr w.heap.size A a by obtain ⟨q, rfl⟩ := hq; exact ha).at_ (k := k) (by rw [HL.out]; omega)
        obtain ⟨g2, o2, y, rfl, hg2, hy, hcell2, hget2⟩ := (show Byt wr w.heap.size D b by obtain ⟨q, rfl⟩ := hq; exact hb).at_ (k := k) (by rw [HL2.out]; omega)
        have e1 : bits .xor .u8 (x : Int) (y : Int) = ((x ^^^ y : Nat) : Int) := u8_xor_nat x y hx hy
        have e2 : x ^^^ y < 256 := Nat.xor_lt_two_pow (n := 8) hx hy
        have e3 : Hid (x ^^^ y = 0 ↔ x = y) := xor_zero x y
        generalize x ^^^ y = Y at *
        have e4 : bits .or .i64 (U : Int) (Y : Int) = ((U ||| Y : Nat) : Int) := i64_or' U Y (by omega) (by omega)
        have e5 : U ||| Y < 281474976710656 := Nat.or_lt_two_pow (n := 48) (by omega) (by omega)
        have e6 : Hid (U ||| Y = 0 ↔ (U = 0 ∧ Y = 0)) := or_zero U Y
        generalize U ||| Y = V at *
        go_wp2
        go_quiet (fail)
        go_wp2
        go_roundw
        case rel =>
          refine ⟨k + 1, V, by omega, by go_num, rfl, by omega, (by obtain ⟨q, rfl⟩ := hq; exact ⟨_, World.drewN_drewN _ _ _⟩), ?_⟩
          show _ ↔ _
          rw [e6.out, HU.out, e3.out, take_both hget.out hget2.out hx hy, and_assoc]
        case measure => simp [intOf]; omega
      · obtain rfl : k = m := by omega
        go_wp2
        go_ret
        refine ⟨ret_bool ?_, hq⟩
        have h3 : U = 0 ↔ a = b := by rw [HU.out, hx2.out]; exact HE.out
        rw [Bool.eq_iff_iff]
        simp [h3]
end Go.Proofs.Ytkiphhabciedjaa
