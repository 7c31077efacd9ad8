/-
  Contracts of the document's own answer for chapter 1, second part: FromBig, Turn, FromLittle, Xor. Conditions: the slices are shorter than 2^46 bytes.
-/
import Derived.Test.YtcdjpjljaoeakaaOctX
import Derived.Test.YtcdjpjljaoeakaaSrc
import Derived.Deep.RegionLaw
namespace Go.Proofs.Ytcdjpjljaoeakaa
open Go.RowKit

theorem refFromBig_ok (A : Option Addr) (l : List UInt8) (n c : Nat) (w : World) (ha : Byt w w.heap.size A l) (hl : l.length = n) (h8 : n ≤ 8) :
    Calls Try.prog 30 #[.slice A n c] w fun e w' => e = .returned (.tuple #[.int .u64 (bn l : Int), .bool true]) ∧ w = w' := by
  have HL := Lib.hid hl
  clear hl
  go_enter Try.func30, Try.ntmps30
  go_wp2
  go_loop [4, 5] (fun t i => ∃ k V : Nat, k ≤ n ∧ i = .int .i64 (k : Int) ∧ t = .int .u64 (V : Int) ∧ V = bn (l.take k)) (fun _ i => n - (intOf i).toNat)
  case atStart => exact ⟨0, 0, Nat.zero_le _, rfl, rfl, by simp [bn]⟩
  case round =>
    obtain ⟨k, V, hk, rfl, rfl, hV⟩ := hrel
    have HV := Lib.hid hV
    by_cases hlt : k < n
    · have hb : V ≤ 72057594037927935 := by
        have h1 := bn_lt k (l.take k) (by rw [List.length_take, HL.out]; omega)
        have h2 := pow_le8 k (by omega)
        omega
      clear hV
      obtain ⟨g, o, x, rfl, hg, hx, hcell, hget⟩ := ha.at_ (k := k) (by rw [HL.out]; exact hlt)
      go_wp2
      exact ⟨⟨k + 1, V * 256 + x, by omega, by go_num, by rw [or_low V x hb hx], by rw [take_at hget.out, bn_snoc, ← HV.out]; simp [Nat.mod_eq_of_lt hx]⟩, by simp [intOf]; omega⟩
    · obtain rfl : k = n := by omega
      clear hV
      go_wp2
      go_ret2
      have e : V = bn l := by rw [HV.out, List.take_of_length_le (by rw [HL.out]; exact Nat.le_refl _)]
      rw [e]
      exact ⟨rfl, rfl⟩

theorem refFromBig_no (A : Option Addr) (n c : Nat) (w : World) (h8 : 8 < n) :
    Calls Try.prog 30 #[.slice A n c] w fun e w' => e = .returned (.tuple #[.int .u64 0, .bool false]) ∧ w = w' := by
  go_enter Try.func30, Try.ntmps30
  go_wp2
  go_ret2
  exact ⟨rfl, rfl⟩

theorem drop_at {l : List UInt8} {k : Nat} {b : UInt8} (h : l[k]? = some b) : l.drop k = b :: l.drop (k + 1) := by
  obtain ⟨hk, rfl⟩ := List.getElem?_eq_some_iff.1 h
  exact List.drop_eq_getElem_cons hk

theorem refTurn_any (A : Option Addr) (l : List UInt8) (n c : Nat) (w : World) (ha : Byt w w.heap.size A l) (hl : l.length = n) (hn : n ≤ 70368744177664) :
    Calls Try.prog 31 #[.slice A n c] w fun e w' => ∃ A' c', e = .returned (.slice A' n c') ∧ Res w' w.heap.size 5 A' n c' l.reverse ∧ Below w.heap.size w w' := by
  have HL := Lib.hid hl
  clear hl
  go_enter Try.func31, Try.ntmps31
  go_wp2
  go_loopw [3, 4] (fun s i wr => ∃ (k n2 : Nat) (A2 : Option Addr) (c2 : Nat), k ≤ n ∧ n2 + k = n ∧ i = .int .i64 ((k : Int) - 1) ∧ s = .slice A2 n2 c2 ∧ Res wr w.heap.size 5 A2 n2 c2 (l.drop k).reverse ∧ Below w.heap.size w wr)
    (fun _ i _ => (intOf i + 1).toNat)
  case atStart => exact ⟨n, 0, none, 0, Nat.le_refl _, by omega, rfl, rfl, by rw [List.drop_of_length_le (by rw [HL.out]; exact Nat.le_refl _)]; exact World.ownsRow_nil _ _ _ _, Below.refl _ _⟩
  case round =>
    obtain ⟨k', n2, A2, c2, hk', hn2, rfl, rfl, hres, hbel⟩ := hrel
    have HN := Lib.hid hn2
    have hn3 : n2 ≤ n := by omega
    clear hn2
    by_cases h0 : 0 < k'
    · obtain ⟨k, rfl⟩ : ∃ k, k' = k + 1 := ⟨k' - 1, by omega⟩
      obtain ⟨g, o, x, rfl, hg, hx, hcell, hget⟩ := (ha.below hbel).at_ (k := k) (by rw [HL.out]; omega)
      go_wp2_with (at_builtin; refine wp_append_bytes _ rfl (.tmp 12) (.tmp 17) 26 rfl 5 Try.underlying26 Try.infoByte w.heap.size A2 n2 c2 _ rfl (hres.alloc _) ⟨wr.heap.size, 0, none⟩ 1 1 rfl [UInt8.ofNat x] rfl (new_byte _ _ _ _ (by simp [Nat.mod_eq_of_lt hx])) (by omega) (by have := hbel.size; simp; omega) ?_)
      intro A3 c3 w3 hres3 hb3
      have hbel3 := hb3 w.heap.size w (Nat.le_refl _) (hbel.alloc (by have := hbel.size; omega) _)
      clear hb3 hres hbel
      go_wp2
      go_roundw
      case rel => exact ⟨k, n2 + 1, A3, c3, by omega, by have := HN.out; omega, by go_num, rfl, by rw [drop_at hget.out, List.reverse_cons]; exact hres3, hbel3⟩
      case measure => simp [intOf]
    · obtain rfl : k' = 0 := by omega
      go_wp2
      go_ret
      have e1 : n2 = n := by have := HN.out; omega
      subst e1
      exact ⟨_, _, rfl, hres, hbel⟩

theorem refFromLittle_ok (A : Option Addr) (l : List UInt8) (n c : Nat) (w : World) (ha : Byt w w.heap.size A l) (hl : l.length = n) (h8 : n ≤ 8) :
    Calls Try.prog 28 #[.slice A n c] w fun e w' => e = .returned (.tuple #[.int .u64 (ln l : Int), .bool true]) ∧ Below w.heap.size w w' := by
  have HL := Lib.hid hl
  clear hl
  go_enter Try.func28, Try.ntmps28
  go_wp2_with fail
  refine (refTurn_any A l n c _ ha HL.out (by omega)).mono ?_
  rintro e w1 ⟨A1, c1, rfl, hr1, hb1⟩
  go_wp2_with fail
  refine (refFromBig_ok A1 l.reverse n c1 _ hr1.byt hr1.len h8).mono ?_
  rintro e w' ⟨rfl, rfl⟩
  rw [← ln_rev]
  go_wp2
  go_ret2
  exact ⟨rfl, hb1⟩

theorem refFromLittle_no (A : Option Addr) (l : List UInt8) (n c : Nat) (w : World) (ha : Byt w w.heap.size A l) (hl : l.length = n) (hn : n ≤ 70368744177664) (h8 : 8 < n) :
    Calls Try.prog 28 #[.slice A n c] w fun e w' => e = .returned (.tuple #[.int .u64 0, .bool false]) ∧ Below w.heap.size w w' := by
  have HL := Lib.hid hl
  clear hl
  go_enter Try.func28, Try.ntmps28
  go_wp2_with fail
  refine (refTurn_any A l n c _ ha HL.out (by omega)).mono ?_
  rintro e w1 ⟨A1, c1, rfl, hr1, hb1⟩
  go_wp2_with fail
  refine (refFromBig_no A1 n c1 _ h8).mono ?_
  rintro e w' ⟨rfl, rfl⟩
  go_wp2
  go_ret2
  exact ⟨rfl, hb1⟩

theorem refXor_core (A D : Option Addr) (a b : List UInt8) (n p c d m : Nat) (w : World) (ha : Byt w w.heap.size A a) (hb : Byt w w.heap.size D b) (hl : a.length = n) (hl2 : b.length = p) (hn : n ≤ 70368744177664) (_hp : p ≤ 70368744177664)
    (hm : (m = n ∧ n ≤ p) ∨ (m = p ∧ p < n)) :
    Calls Try.prog 19 #[.slice A n c, .slice D p d] w fun e w' => ∃ A' c', e = .returned (.slice A' m c') ∧ Res w' w.heap.size 5 A' m c' (xr a b) ∧ Below w.heap.size w w' := by
  have HL := Lib.hid hl
  have HL2 := Lib.hid hl2
  have HX : Hid ((xr a b).length = m) := show _ = _ by rw [xr_len, hl, hl2]; omega
  have hmn : m ≤ n := by omega
  have hmp : m ≤ p := by omega
  have hend : n ≤ m ∨ p ≤ m := by omega
  clear hl hl2 hm
  go_enter Try.func19, Try.ntmps19
  go_wp2
  go_loopw [5, 6] (fun s i wr => ∃ (k : Nat) (A2 : Option Addr) (c2 : Nat), k ≤ m ∧ i = .int .i64 (k : Int) ∧ s = .slice A2 k c2 ∧ Res wr w.heap.size 5 A2 k c2 ((xr a b).take k) ∧ Below w.heap.size w wr) (fun _ i _ => m - (intOf i).toNat)
  case atStart => exact ⟨0, none, 0, Nat.zero_le _, rfl, rfl, World.ownsRow_nil _ _ _ _, Below.refl _ _⟩
  case round =>
    obtain ⟨k, A2, c2, hk, rfl, rfl, hres, hbel⟩ := hrel
    by_cases hlt : k < m
    · obtain ⟨g, o, x, rfl, hg, hx, hcell, hget⟩ := (ha.below hbel).at_ (k := k) (by rw [HL.out]; omega)
      obtain ⟨g2, o2, y, rfl, hg2, hy, hcell2, hget2⟩ := (hb.below hbel).at_ (k := k) (by rw [HL2.out]; omega)
      have h1 : k < n := by omega
      have h2 : k < p := by omega
      clear hend
      go_wp2
      go_region_law ((refine step_append_bytes _ rfl (.tmp 19) (.tmp 29) 26 rfl 5 Try.underlying26 Try.infoByte w.heap.size A2 k c2 ((xr a b).take k) (by simp [Act.eval]) (by exact (hres.alloc _).drew) ⟨wr.heap.size, 0, none⟩ 1 1 (by simp [Act.eval]) [UInt8.ofNat x ^^^ UInt8.ofNat y] rfl (new_byted wr _ _ _ (xor_cast x y hx hy)) (by omega) (by have := hbel.size; simp; omega) ?_; intro A3 c3 w3 hres3 hb3))
      all_goals
        have hbel3 := hb3 w.heap.size w (Nat.le_refl _) ((hbel.alloc (by have := hbel.size; omega) _).drew)
        clear hb3 hres hbel
        go_wp2
        go_roundw
        case rel => exact ⟨k + 1, A3, c3, by omega, by go_num, rfl, by rw [take_at (xr_at a b k x y hget.out hget2.out)]; exact hres3, hbel3⟩
        case measure => simp [intOf]; omega
    · obtain rfl : k = m := by omega
      have h3 := hres
      rw [List.take_of_length_le (by rw [HX.out]; exact Nat.le_refl _)] at h3
      have H3 := Lib.hid h3
      clear h3 hres
      by_cases h1 : k < n
      · have h2 : ¬ k < p := by omega
        clear hend
        go_wp2
        go_ret
        exact ⟨_, _, rfl, H3.out, hbel⟩
      · clear hend
        go_wp2
        go_ret
        exact ⟨_, _, rfl, H3.out, hbel⟩
end Go.Proofs.Ytcdjpjljaoeakaa
