/-
  PolyKnown: the law's Go text returns true. Conditions: none.
-/
import Derived.Test.YtioodeiloepaaaaPlW2
import Derived.Test.YtioodeiloepaaaaEqB
namespace Go.Proofs.Ytioodeiloepaaaa
open Go.RowKit

def whatMsg : List UInt8 := [119, 104, 97, 116, 101, 118, 101, 114]
def three : List UInt8 := 3 :: List.replicate 15 0
def two32 : List UInt8 := 2 :: List.replicate 31 0
def nearKey : List UInt8 := (2 :: List.replicate 15 0) ++ List.replicate 16 255
def nearMsg : List UInt8 := 2 :: List.replicate 15 0
def clampIn : List UInt8 := [0, 0, 0, 255, 255, 0, 0, 255, 255, 0, 0, 255, 255, 0, 0, 255]
def clampOut : List UInt8 := [0, 0, 0, 15, 252, 0, 0, 15, 252, 0, 0, 15, 252, 0, 0, 15]
theorem known_a : tagOf z32 whatMsg = z16 := by decide +kernel
theorem known_b : tagOf two32 (List.replicate 16 255) = three := by decide +kernel
theorem known_c : tagOf nearKey nearMsg = three := by decide +kernel
theorem known_d : clampOf clampIn = clampOut := by decide +kernel
theorem built_two : Try.prog.built 26 [(0, .int .u8 2)] = some (bv two32).toArray := by kernel_rfl
theorem built_none16 : Try.prog.built 23 [] = some (bv z16).toArray := by kernel_rfl
theorem built_three : Try.prog.built 23 [(0, .int .u8 3)] = some (bv three).toArray := by kernel_rfl
def partsOf (l : List UInt8) : List (Nat × Value) := (List.range l.length).map fun k => (k, .int .u8 (((l.getD k 0).toNat : Nat) : Int))
theorem built_in : Try.prog.built 23 (partsOf clampIn) = some (bv clampIn).toArray := by kernel_rfl
theorem built_out : Try.prog.built 23 (partsOf clampOut) = some (bv clampOut).toArray := by kernel_rfl
def nearDigits : ByteArray := ⟨#[48, 50, 48, 48, 48, 48, 48, 48, 48, 48, 48, 48, 48, 48, 48, 48, 48, 48, 48, 48, 48, 48, 48, 48, 48, 48, 48, 48, 48, 48, 48, 48, 102, 102, 102, 102, 102, 102, 102, 102, 102, 102, 102, 102, 102, 102, 102, 102, 102, 102, 102, 102, 102, 102, 102, 102, 102, 102, 102, 102, 102, 102, 102, 102]⟩
theorem near_unhex : unhex nearDigits.data.toList = some nearKey := by decide +kernel
/-- The tag of one part that lies somewhere. -/
theorem tag_slice (w : World) (key m : List UInt8) (A : Option Addr) (n c : Nat) (hA : Byt w w.heap.size A m) (hk : key.length = 32) (hn : m.length = n) (hc : n ≤ c) (hn2 : n ≤ 1048576) :
    Calls Try.prog 9 #[.agg (bv key).toArray, .slice (some ⟨w.heap.size, 0, none⟩) 1 1] (w.alloc (.cells #[.slice A n c] 27)) fun e w' => e = .returned (.agg (bv (tagOf key m)).toArray) ∧ Below w.heap.size w w' := by
  have b2 : Below w.heap.size w (w.alloc (.cells #[.slice A n c] 27)) := (Below.refl _ _).alloc (Nat.le_refl _) _
  have hp := Prt.one (E := 27) hA hn hc
  have e3 : [m].flatten = m := by simp
  have h := ptagAll_any _ key (some ⟨w.heap.size, 0, none⟩) [m] 1 1 hk hp rfl (by rw [e3]; omega) (by decide)
  rw [e3] at h
  exact h.mono fun _ _ ⟨h1, h2⟩ => ⟨h1, b2.trans (h2.mono b2.size)⟩
theorem fill_set (k : Nat) (hk : k < 16) : (List.replicate k (255 : UInt8) ++ List.replicate (16 - k) 0).set k 255 = List.replicate (k + 1) 255 ++ List.replicate (16 - (k + 1)) 0 := by
  obtain ⟨m, hm⟩ : ∃ m, 16 - k = m + 1 := ⟨15 - k, by omega⟩
  rw [List.set_append_right _ _ (by simp), List.length_replicate, Nat.sub_self, hm, List.replicate_succ, List.set_cons_zero, show 16 - (k + 1) = m by omega, ← List.replicate_append_replicate (n := k) (m := 1), List.append_assoc]
  rfl

set_option maxRecDepth 100000 in
set_option maxHeartbeats 1000000 in
theorem walk_PolyKnown (w : World) :
    Calls Try.prog 3 #[] w fun e w' => e = .returned (.bool true) ∧ Below w.heap.size w w' := by
  obtain ⟨i0, hi, hz0, hz1, hz2⟩ := info_parts Try.infoByte
  have hz16 := zero_b16
  have kc := fun (w : World) (C : Array Value) (n c : Nat) => Lib.run_convert_bytes_const (P := Try.prog) w 27 5 C n c Try.underlying27 Try.underlying5
  have HZ16 := Lib.hid (show (bv z16).toArray.size = 16 from rfl)
  have HT := Lib.hid (show (bv three).toArray.size = 16 from rfl)
  have HD := Lib.hid (show (bv clampOut).toArray.size = 16 from rfl)
  go_enter Try.func3, Try.ntmps3
  go_wp2_with fail
  refine (awake5_any w).mono ?_
  rintro e w1 ⟨rfl, hb1⟩
  go_wp2_with (with_reducible refine wpList_build_to rfl 26 _ rfl [] (by rfl) _ built_w32 ?_)
  refine (tag_one w1 z32 whatMsg _ rfl _ 8 rfl rfl (by decide)).mono ?_
  rintro e w2 ⟨rfl, hb2⟩
  rw [known_a]
  clear kc
  have hb12 := below_next hb1 hb1.size hb2
  go_upto_region 4 with ((with_reducible refine wpList_store_row rfl 23 (.tmp 1) (.tmp 13) rfl w2.heap.size (bv z16).toArray rfl rfl 23 _ (heap_alloc_new _ _) (by rw [HZ16.out]; kernel_rfl) (by rw [HZ16.out]) (all_oneCell_toArray (bv_one _)) ?_); rw [World.setRow_alloc_new])
  have ga := Lib.hid (heap_alloc_new w2 (.cells (bv z16).toArray 23))
  have hb3 : Below w.heap.size w (w2.alloc (.cells (bv z16).toArray 23)) := hb12.alloc hb12.size _
  have lb : w2.heap.size < (w2.alloc (.cells (bv z16).toArray 23)).heap.size := by simp
  generalize w2.alloc (.cells (bv z16).toArray 23) = w3 at *
  obtain ⟨a, ha⟩ : ∃ a, a = w2.heap.size := ⟨_, rfl⟩
  rw [← ha] at ga lb ⊢
  clear ha hb1 hb2 hb12
  obtain ⟨w4, hrun, hg4, hb4, hs4⟩ := make_bytes (P := Try.prog) Try.underlying27 hi hz0 hz1 hz2 16 16 16 16 rfl rfl (by decide) (by decide) w3
  have ga4 : Hid (w4.heap[a]? = some (.cells (bv z16).toArray 23 (0, 0))) := (hb4.out.block _ lb).trans ga.out
  have hb4' : Below w.heap.size w w4 := below_next hb3 hb3.size hb4.out
  have hg40 : Hid (w4.heap[w3.heap.size]? = some (.cells (bv (List.replicate 0 255 ++ List.replicate (16 - 0) 0)).toArray 5 (0, 0))) := hg4.out
  have hFa : a < w3.heap.size := lb
  have hFw : w.heap.size ≤ w3.heap.size := hb3.size
  go_wp2
  clear hrun hg4 hb4 hs4 hi hz0 hz1 hz2 ga hb3 lb
  go_loopw [3] (fun i wr => ∃ k : Nat, k ≤ 16 ∧ i = .int .i64 (k : Int) ∧ Hid (wr.heap[w3.heap.size]? = some (.cells (bv (List.replicate k 255 ++ List.replicate (16 - k) 0)).toArray 5 (0, 0))) ∧ But w3.heap.size w4 wr) (fun i _ => 16 - (intOf i).toNat)
  case atStart => exact ⟨0, by omega, rfl, hg40, But.refl _ _⟩
  case round =>
    clear hg40
    obtain ⟨k, hk, rfl, hg, hbt⟩ := hrel
    by_cases hlt : k < 16
    · have f0 : wr.frozen? ⟨w3.heap.size, k, none⟩ = false := frozen_of_row _ _ _ _ _ hg.out
      obtain ⟨x, c0⟩ : ∃ x : UInt8, wr.cell? ⟨w3.heap.size, k, none⟩ = some (.int .u8 (x.toNat : Int)) :=
        ⟨_, byte_cell hg.out (List.getElem?_eq_getElem (by simp; omega))⟩
      have hset : Hid ((wr.setCell ⟨w3.heap.size, k, none⟩ (.int .u8 255)).heap[w3.heap.size]? = some (.cells (bv (List.replicate (k + 1) 255 ++ List.replicate (16 - (k + 1)) 0)).toArray 5 (0, 0))) := by
        have h1 := (world_set_cell hg.out k (.int .u8 (((255 : UInt8).toNat : Nat) : Int))).out
        rw [bv_set, fill_set k hlt] at h1
        exact h1
      have hb2 := hbt.set (i := k) (.int .u8 255)
      go_wp2
      exact ⟨⟨k + 1, by omega, by go_num, hset, hb2⟩, by simp [intOf]; omega⟩
    · have hgf : Hid (wr.heap[w3.heap.size]? = some (.cells (bv (List.replicate 16 255)).toArray 5 (0, 0))) := by
        have h1 := hg.out
        rw [show k = 16 by omega] at h1
        exact h1
      have gar : Hid (wr.heap[a]? = some (.cells (bv z16).toArray 23 (0, 0))) := (hbt.block _ (Array.getElem?_eq_some_iff.1 ga4.out).1 (by intro e; injection e; omega)).trans ga4.out
      have lar : a < wr.heap.size := (Array.getElem?_eq_some_iff.1 gar.out).1
      have hbw : Below w.heap.size w wr := But.below hb4' hbt hFw hb4'.size
      clear hg hbt ga4 hb4'
      have htag := tag_slice wr two32 (List.replicate 16 255) (some ⟨w3.heap.size, 0, none⟩) 16 16 (byt_row hgf.out) rfl rfl (by decide) (by decide)
      rw [known_b] at htag
      go_wp2_with (with_reducible refine wpList_build_to rfl 26 _ rfl [(0, .int .u8 2)] (by kernel_rfl) _ built_two ?_)
      refine htag.mono ?_
      rintro e w5 ⟨rfl, hb5⟩
      have gar5 : Hid (w5.heap[a]? = some (.cells (bv z16).toArray 23 (0, 0))) := (hb5.block _ lar).trans gar.out
      have hbw5 := below_next hbw hbw.size hb5
      clear htag gar hgf hbw
      go_upto_region 10 with ((with_reducible refine wpList_store_row rfl 23 (.tmp 4) (.tmp 25) rfl w5.heap.size (bv three).toArray rfl rfl 23 _ (heap_alloc_new _ _) (by rw [HT.out]; kernel_rfl) (by rw [HT.out]; exact HZ16.out) (all_oneCell_toArray (bv_one _)) ?_); rw [World.setRow_alloc_new])
      have gb := Lib.hid (heap_alloc_new w5 (.cells (bv three).toArray 23))
      have hb6 : Below w5.heap.size w5 (w5.alloc (.cells (bv three).toArray 23)) := (Below.refl _ _).alloc (Nat.le_refl _) _
      have lb6 : w5.heap.size < (w5.alloc (.cells (bv three).toArray 23)).heap.size := by simp
      generalize w5.alloc (.cells (bv three).toArray 23) = w6 at *
      have ga6 : Hid (w6.heap[a]? = some (.cells (bv z16).toArray 23 (0, 0))) := (hb6.block _ (by have := hb5.size; omega)).trans gar5.out
      have hbw6 := below_next hbw5 hbw5.size hb6
      obtain ⟨b, hb⟩ : ∃ b, b = w5.heap.size := ⟨_, rfl⟩
      have hab : a < b := by have := hb5.size; omega
      rw [← hb] at gb lb6 ⊢
      clear hb hb5 gar5 hbw5 hb6
      go_wp2_with fail
      refine (word5_any w6 nearDigits nearKey (by decide) near_unhex rfl).mono ?_
      rintro e w7 ⟨rfl, hb7⟩
      have ga7 : Hid (w7.heap[a]? = some (.cells (bv z16).toArray 23 (0, 0))) := (hb7.block _ (by omega)).trans ga6.out
      have gb7 : Hid (w7.heap[b]? = some (.cells (bv three).toArray 23 (0, 0))) := (hb7.block _ lb6).trans gb.out
      have hbw7 := below_next hbw6 hbw6.size hb7
      have l7 : b < w7.heap.size := by have := hb7.size; omega
      clear hb7 ga6 gb hbw6
      have htag := tag_one w7 nearKey nearMsg (bv nearMsg).toArray rfl (0, 0) 16 rfl rfl (by decide)
      rw [known_c] at htag
      go_wp2_with fail
      refine htag.mono ?_
      rintro e w8 ⟨rfl, hb8⟩
      have ga8 : Hid (w8.heap[a]? = some (.cells (bv z16).toArray 23 (0, 0))) := (hb8.block _ (by omega)).trans ga7.out
      have gb8 : Hid (w8.heap[b]? = some (.cells (bv three).toArray 23 (0, 0))) := (hb8.block _ l7).trans gb7.out
      have hbw8 := below_next hbw7 hbw7.size hb8
      have l8 : b < w8.heap.size := by have := hb8.size; omega
      clear htag hb8 ga7 gb7 hbw7
      go_upto_region 11 with ((with_reducible refine wpList_store_row rfl 23 (.tmp 5) (.tmp 29) rfl w8.heap.size (bv three).toArray rfl rfl 23 _ (heap_alloc_new _ _) (by rw [HT.out]; kernel_rfl) (by rw [HT.out]; exact HZ16.out) (all_oneCell_toArray (bv_one _)) ?_); rw [World.setRow_alloc_new])
      have gc := Lib.hid (heap_alloc_new w8 (.cells (bv three).toArray 23))
      have hb9 : Below w8.heap.size w8 (w8.alloc (.cells (bv three).toArray 23)) := (Below.refl _ _).alloc (Nat.le_refl _) _
      have lb9 : w8.heap.size < (w8.alloc (.cells (bv three).toArray 23)).heap.size := by simp
      generalize w8.alloc (.cells (bv three).toArray 23) = w9 at *
      have ga9 : Hid (w9.heap[a]? = some (.cells (bv z16).toArray 23 (0, 0))) := (hb9.block _ (by omega)).trans ga8.out
      have gb9 : Hid (w9.heap[b]? = some (.cells (bv three).toArray 23 (0, 0))) := (hb9.block _ l8).trans gb8.out
      have hbw9 := below_next hbw8 hbw8.size hb9
      obtain ⟨c, hc⟩ : ∃ c, c = w8.heap.size := ⟨_, rfl⟩
      have hbc : b < c := by omega
      rw [← hc] at gc lb9 ⊢
      clear hc hb9 ga8 gb8 hbw8
      have hcl := clamp_any w9 clampIn rfl
      rw [known_d] at hcl
      go_wp2_with (with_reducible refine wpList_build_to rfl 23 _ rfl (partsOf clampIn) (by kernel_rfl) _ built_in ?_)
      refine hcl.mono ?_
      rintro e wA ⟨rfl, hbA⟩
      have gaA : Hid (wA.heap[a]? = some (.cells (bv z16).toArray 23 (0, 0))) := (hbA.block _ (by omega)).trans ga9.out
      have gbA : Hid (wA.heap[b]? = some (.cells (bv three).toArray 23 (0, 0))) := (hbA.block _ (by omega)).trans gb9.out
      have gcA : Hid (wA.heap[c]? = some (.cells (bv three).toArray 23 (0, 0))) := (hbA.block _ lb9).trans gc.out
      have hbwA := below_next hbw9 hbw9.size hbA
      have lA : c < wA.heap.size := by have := hbA.size; omega
      clear hcl hbA ga9 gb9 gc hbw9
      go_upto_region 12 with ((with_reducible refine wpList_store_row rfl 23 (.tmp 6) (.tmp 31) rfl wA.heap.size (bv clampOut).toArray rfl rfl 23 _ (heap_alloc_new _ _) (by rw [HD.out]; kernel_rfl) (by rw [HD.out]; exact HZ16.out) (all_oneCell_toArray (bv_one _)) ?_); rw [World.setRow_alloc_new])
      have gd := Lib.hid (heap_alloc_new wA (.cells (bv clampOut).toArray 23))
      have hbB : Below wA.heap.size wA (wA.alloc (.cells (bv clampOut).toArray 23)) := (Below.refl _ _).alloc (Nat.le_refl _) _
      generalize wA.alloc (.cells (bv clampOut).toArray 23) = wB at *
      have gaB : Hid (wB.heap[a]? = some (.cells (bv z16).toArray 23 (0, 0))) := (hbB.block _ (by omega)).trans gaA.out
      have gbB : Hid (wB.heap[b]? = some (.cells (bv three).toArray 23 (0, 0))) := (hbB.block _ (by omega)).trans gbA.out
      have gcB : Hid (wB.heap[c]? = some (.cells (bv three).toArray 23 (0, 0))) := (hbB.block _ lA).trans gcA.out
      have hbwB := below_next hbwA hbwA.size hbB
      clear hbB gaA gbA gcA hbwA
      have q1 := eql_bytes_same Try.underlying23 Try.underlying5 Try.sizeByte z16 rfl
      have q2 := eql_bytes_same Try.underlying23 Try.underlying5 Try.sizeByte three rfl
      have q3 := eql_bytes_same Try.underlying23 Try.underlying5 Try.sizeByte clampOut rfl
      go_wp2_with (first
        | (with_reducible refine wpList_load_row rfl 23 (.tmp 1) rfl a rfl 23 (bv z16).toArray (0, 0) _ gaB.out Try.underlying23 rfl (by rw [HZ16.out]; kernel_rfl) ?_)
        | (with_reducible refine wpList_build_to rfl 23 #[] rfl [] (by kernel_rfl) _ built_none16 ?_)
        | (with_reducible refine wpList_eql_w (by kernel_rfl) 23 _ (.tmp 32) (.tmp 33) rfl (by kernel_rfl) (bv z16).toArray (bv z16).toArray rfl rfl true (q1 _) ?_)
        | (with_reducible refine wpList_load_row_w (by kernel_rfl) 23 (.tmp 4) rfl b rfl 23 (bv three).toArray (0, 0) _ gbB.out Try.underlying23 rfl (by rw [HT.out]; kernel_rfl) ?_)
        | (with_reducible refine wpList_build_w (by kernel_rfl) 23 #[(0, .const (.int .u8 3))] rfl [(0, .int .u8 3)] (by kernel_rfl) _ built_three ?_)
        | (with_reducible refine wpList_eql_w (by kernel_rfl) 23 _ (.tmp 36) (.tmp 37) rfl (by kernel_rfl) (bv three).toArray (bv three).toArray rfl rfl true (q2 _) ?_)
        | (with_reducible refine wpList_load_row_w (by kernel_rfl) 23 (.tmp 5) rfl c rfl 23 (bv three).toArray (0, 0) _ gcB.out Try.underlying23 rfl (by rw [HT.out]; kernel_rfl) ?_)
        | (with_reducible refine wpList_eql_w (by kernel_rfl) 23 _ (.tmp 41) (.tmp 42) rfl (by kernel_rfl) (bv three).toArray (bv three).toArray rfl rfl true (q2 _) ?_)
        | (with_reducible refine wpList_load_row_w (by kernel_rfl) 23 (.tmp 6) rfl wA.heap.size rfl 23 (bv clampOut).toArray (0, 0) _ gd.out Try.underlying23 rfl (by rw [HD.out]; kernel_rfl) ?_)
        | (with_reducible refine wpList_build_w (by kernel_rfl) 23 #[(0, .const (.int .u8 0)), (1, .const (.int .u8 0)), (2, .const (.int .u8 0)), (3, .const (.int .u8 15)), (4, .const (.int .u8 252)), (5, .const (.int .u8 0)), (6, .const (.int .u8 0)), (7, .const (.int .u8 15)), (8, .const (.int .u8 252)), (9, .const (.int .u8 0)), (10, .const (.int .u8 0)), (11, .const (.int .u8 15)), (12, .const (.int .u8 252)), (13, .const (.int .u8 0)), (14, .const (.int .u8 0)), (15, .const (.int .u8 15))] rfl (partsOf clampOut) (by kernel_rfl) _ built_out ?_)
        | (with_reducible refine wpList_eql_w (by kernel_rfl) 23 _ (.tmp 46) (.tmp 47) rfl (by kernel_rfl) (bv clampOut).toArray (bv clampOut).toArray rfl rfl true (q3 _) ?_))
      go_ret
      exact ⟨rfl, hbwB⟩
end Go.Proofs.Ytioodeiloepaaaa
