/-
  Contract of octet.Xor. Conditions: the slices are shorter than 2^47 bytes.
-/
import Derived.Test.YtcdjpjljaoeakaaOctDD
import Derived.Test.YtcdjpjljaoeakaaOctCD
namespace Go.Proofs.Ytcdjpjljaoeakaa
open Go.RowKit

theorem fill_step (X : List UInt8) (m k : Nat) (b : UInt8) (hX : X.length = m) (hk : X[k]? = some b) :
    (X.take k ++ List.replicate (m - k) 0).set k b = X.take (k + 1) ++ List.replicate (m - (k + 1)) 0 := by
  obtain ⟨hk', rfl⟩ := List.getElem?_eq_some_iff.1 hk
  have e : m - k = (m - (k + 1)) + 1 := by omega
  have e4 : k - (X.take k).length = 0 := by simp; omega
  rw [e, List.replicate_succ, List.set_append_right _ _ (by simp; omega), e4, List.set_cons_zero, List.take_succ_eq_append_getElem hk', List.append_assoc]
  rfl

/-- Exclusive or, as long as the shorter one. -/
def xr (a b : List UInt8) : List UInt8 := List.zipWith (· ^^^ ·) a b
theorem xr_len (a b : List UInt8) : (xr a b).length = min a.length b.length := by simp [xr]
theorem xr_at (a b : List UInt8) (k x y : Nat) (hx : a[k]? = some (UInt8.ofNat x)) (hy : b[k]? = some (UInt8.ofNat y)) : (xr a b)[k]? = some (UInt8.ofNat x ^^^ UInt8.ofNat y) := by
  simp [xr, List.getElem?_zipWith, hx, hy]
theorem xor_cast (x y : Nat) (hx : x < 256) (hy : y < 256) : bits .xor .u8 (x : Int) (y : Int) = ((UInt8.ofNat x ^^^ UInt8.ofNat y).toNat : Int) := by
  rw [u8_xor_nat x y hx hy, UInt8.toNat_xor]
  simp [Nat.mod_eq_of_lt hx, Nat.mod_eq_of_lt hy]

theorem xor_core (A D : Option Addr) (a b : List UInt8) (n p c d m : Nat) (w : World) (ha : Byt w w.heap.size A a) (hb : Byt w w.heap.size D b) (hl : a.length = n) (hl2 : b.length = p) (hn : n ≤ 140737488355328) (hp : p ≤ 140737488355328)
    (hm : (m = n ∧ n ≤ p) ∨ (m = p ∧ p < n)) :
    Calls Try.prog 17 #[.slice A n c, .slice D p d] w fun e w' => ∃ A' c', e = .returned (.slice A' m c') ∧ Res w' w.heap.size 5 A' m c' (xr a b) ∧ Below w.heap.size w w' := by
  obtain ⟨i0, hi, hz0, hz1, hz2⟩ := info_parts Try.infoByte
  obtain ⟨w1, hrun, hg1, hb1, hs1⟩ := make_bytes (P := Try.prog) Try.underlying26 hi hz0 hz1 hz2 m m (m : Int) (m : Int) rfl rfl (by omega) (by omega) w
  have HL := Lib.hid hl
  have HL2 := Lib.hid hl2
  have HX : Hid ((xr a b).length = m) := show _ = _ by rw [xr_len, hl, hl2]; omega
  clear hl hl2 hi hz0 hz1 hz2
  rcases hm with ⟨rfl, h⟩ | ⟨rfl, h⟩
  all_goals
    go_enter Try.func17, Try.ntmps17
    go_wp2
    go_loopw [6, 15] (fun _ i wr => ∃ k : Nat, k ≤ m ∧ i = .int .i64 (k : Int) ∧ Res wr w.heap.size 5 (some ⟨w.heap.size, 0, none⟩) m m ((xr a b).take k ++ List.replicate (m - k) 0) ∧ Below w.heap.size w wr) (fun _ i _ => m - (intOf i).toNat)
    case atStart => exact ⟨0, Nat.zero_le _, rfl, by simpa using Res.made hg1.out (Nat.le_refl _) (by omega), hb1.out⟩
    case round =>
      obtain ⟨k, hk, rfl, hres, hbel⟩ := hrel
      by_cases hlt : k < m
      · obtain ⟨g, o, x, rfl, hg, hx, hcell, hget⟩ := (ha.below hbel).at_ (k := k) (by rw [HL.out]; omega)
        obtain ⟨g2, o2, y, rfl, hg2, hy, hcell2, hget2⟩ := (hb.below hbel).at_ (k := k) (by rw [HL2.out]; omega)
        obtain ⟨u, hu⟩ := hres.cell (j := k) (by omega)
        have hf := hres.free k
        go_wp2
        go_region
        go_wp2
        go_roundw
        case rel =>
          refine ⟨k + 1, by omega, by go_num, ?_, ((hbel.setCell (Nat.le_refl _) _).drew)⟩
          rw [← fill_step (xr a b) m k _ HX.out (xr_at a b k x y hget.out hget2.out)]
          exact hres.put _ _ _ (xor_cast x y hx hy)
        case measure => simp [intOf]; omega
      · obtain rfl : k = m := by omega
        go_wp2
        go_ret
        refine ⟨_, _, rfl, ?_, hbel⟩
        have h2 := hres
        rw [List.take_of_length_le (by rw [HX.out]; exact Nat.le_refl _)] at h2
        simpa using h2

end Go.Proofs.Ytcdjpjljaoeakaa
