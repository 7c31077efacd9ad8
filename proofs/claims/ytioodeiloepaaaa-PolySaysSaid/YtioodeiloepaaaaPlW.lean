/-
  Contracts of law 5's word and awake: a known tag, reckoned by the kernel. Conditions: 64 digits.
-/
import Derived.Test.YtioodeiloepaaaaPlY
import Derived.Test.YtioodeiloepaaaaRefC
import Derived.Test.YtioodeiloepaaaaRefD
import Derived.Lib.SlBytesConst
namespace Go.Proofs.Ytioodeiloepaaaa
open Go.RowKit

theorem zero_w32 (w : World) : (zeroValue 26).run Try.prog w = .ok (.agg (bv z32).toArray) w := by kernel_rfl
theorem built_w32 : Try.prog.built 26 [] = some (bv z32).toArray := by kernel_rfl
set_option maxRecDepth 100000 in
set_option maxHeartbeats 1000000 in
theorem word5_any (w : World) (s : ByteArray) (l : List UInt8) (hs : s.size ≤ 140737488355328) (h : unhex s.data.toList = some l) (hl : l.length = 32) :
    Calls Try.prog 10 #[.string s] w fun e w' => e = .returned (.agg (bv l).toArray) ∧ Below w.heap.size w w' := by
  have hzw := zero_w32
  have hw1 : Below w.heap.size w (w.alloc (.cells (bv z32).toArray 26)) := (Below.refl _ _).alloc (Nat.le_refl _) _
  have hun := refUnhex_ok s l (w.alloc (.cells (bv z32).toArray 26)) hs h
  have hzR := heap_alloc_new w (.cells (bv z32).toArray 26)
  have hszR : w.heap.size < (w.alloc (.cells (bv z32).toArray 26)).heap.size := by simp
  rw [hl] at hun
  have HL := Lib.hid hl
  have HS := Lib.hid (show (bv l).toArray.size = 32 by simp [bv_len, hl])
  have HZ3 := Lib.hid (show (bv z32).toArray.size = 32 from rfl)
  have HZL := Lib.hid (show (bv z32).length = 32 from rfl)
  clear h hs hl
  go_enter Try.func10, Try.ntmps10
  go_wp2_with fail
  refine hun.mono ?_
  rintro e w3 ⟨A3, c3, rfl, hr3, hb3⟩
  clear hun
  have hb3' := below_next hw1 hw1.size hb3
  have hz3 : Hid (w3.heap[w.heap.size]? = some (.cells (bv z32).toArray 26 (0, 0))) := (hb3.block _ hszR).trans hzR
  have hz3l : w.heap.size < w3.heap.size := (Array.getElem?_eq_some_iff.1 hz3.out).1
  go_upto_region 3 with (first
    | (with_reducible refine wpList_build_to rfl 26 _ rfl [] (by rfl) _ built_w32 ?_)
    | ((with_reducible refine wpList_store_row rfl 26 (.tmp 5) (.tmp 11) rfl w3.heap.size (bv z32).toArray rfl rfl 26 _ (heap_alloc_new _ _) (by rw [HZ3.out]; kernel_rfl) (by rw [HZ3.out]) (all_oneCell_toArray (bv_one _)) ?_); rw [World.setRow_alloc_new]))
  have hw4 : Below w3.heap.size w3 (w3.alloc (.cells (bv z32).toArray 26)) := (Below.refl _ _).alloc (Nat.le_refl _) _
  have hg4 := Lib.hid (heap_alloc_new w3 (.cells (bv z32).toArray 26))
  have hcut := cut_all Try.underlying26 Try.sizeByte w3.heap.size 0 (by decide)
  have hsrc := (hr3.byt.below hw4).src (some ⟨w3.heap.size, 0, none⟩) _ rfl
  generalize w3.alloc (.cells (bv z32).toArray 26) = w4 at *
  go_wp2_with (with_reducible refine wpList_copy_splice rfl (.tmp 12) (.tmp 13) 27 27 rfl 5 Try.underlying27 Try.sizeByte (some ⟨w3.heap.size, 0, none⟩) A3 32 32 32 c3 rfl rfl w3.heap.size 0 (bv z32) 26 hg4.out (bv l) (by rw [bv_len, HL.out]; decide) hsrc (by rw [bv_len, HL.out, HZL.out]; omega) (bv_one _) w3.heap.size _ (Below.refl _ _) (Nat.le_refl _) ?_)
  intro w5 hg5 hb5
  have hX5 : Hid (w5.heap[w3.heap.size]? = some (.cells (bv l).toArray 26 (0, 0))) := by
    have h1 := hg5.out
    have h2 : splice (bv z32) 0 (bv l) = bv l := by
      rw [splice, List.take_zero, List.nil_append, Nat.zero_add, List.drop_eq_nil_of_le (by rw [bv_len l, HL.out, HZL.out]; exact Nat.le_refl _), List.append_nil]
    rw [h2] at h1
    exact h1
  have hz5 : Hid (w5.heap[w.heap.size]? = some (.cells (bv z32).toArray 26 (0, 0))) := (hb5.block _ hz3l).trans ((hw4.block _ hz3l).trans hz3.out)
  have hb6 : Below w.heap.size w w5 := (hb3'.trans (hw4.mono hb3'.size)).trans (hb5.mono hb3'.size)
  clear hg5 hb5 hg4 hw4 hr3 hz3 hb3' hsrc hcut
  go_wp2_with (first
    | (with_reducible refine wpList_load_row rfl 26 (.tmp 5) rfl w3.heap.size rfl 26 (bv l).toArray (0, 0) _ hX5.out Try.underlying26 rfl (by rw [HS.out]; kernel_rfl) ?_)
    | (with_reducible refine wpList_store_row rfl 26 (.tmp 2) (.tmp 15) rfl w.heap.size (bv l).toArray rfl rfl 26 _ hz5.out (by rw [HS.out]; kernel_rfl) (by rw [HS.out]; exact HZ3.out) (all_oneCell_toArray (bv_one _)) ?_))
  refine bodyPost_ret (v := .agg (bv l).toArray) (results_cell_row Try.results10 _ _ w.heap.size 26 _ (0, 0) _ rfl (setRow_heap _ _ _ _ _ _ hz5.out) Try.underlying26 rfl (by rw [HS.out]; kernel_rfl)) rfl ⟨rfl, below_setRow hb6 (Nat.le_refl _) _⟩

def rfcKey : List UInt8 := [0x85, 0xd6, 0xbe, 0x78, 0x57, 0x55, 0x6d, 0x33, 0x7f, 0x44, 0x52, 0xfe, 0x42, 0xd5, 0x06, 0xa8, 0x01, 0x03, 0x80, 0x8a, 0xfb, 0x0d, 0xb2, 0xfd, 0x4a, 0xbf, 0xf6, 0xaf, 0x41, 0x49, 0xf5, 0x1b]
def rfcMsg : List UInt8 := [67, 114, 121, 112, 116, 111, 103, 114, 97, 112, 104, 105, 99, 32, 70, 111, 114, 117, 109, 32, 82, 101, 115, 101, 97, 114, 99, 104, 32, 71, 114, 111, 117, 112]
def rfcTag : List UInt8 := [0xa8, 0x06, 0x1d, 0xc1, 0x30, 0x51, 0x36, 0xc6, 0xc2, 0x2b, 0x8b, 0xaf, 0x0c, 0x01, 0x27, 0xa9]
theorem rfc_known : tagOf rfcKey rfcMsg = rfcTag := by decide +kernel
theorem rfc_hex : hexd rfcTag = [97, 56, 48, 54, 49, 100, 99, 49, 51, 48, 53, 49, 51, 54, 99, 54, 99, 50, 50, 98, 56, 98, 97, 102, 48, 99, 48, 49, 50, 55, 97, 57] := by decide +kernel
def rfcDigits : ByteArray := ⟨#[56, 53, 100, 54, 98, 101, 55, 56, 53, 55, 53, 53, 54, 100, 51, 51, 55, 102, 52, 52, 53, 50, 102, 101, 52, 50, 100, 53, 48, 54, 97, 56, 48, 49, 48, 51, 56, 48, 56, 97, 102, 98, 48, 100, 98, 50, 102, 100, 52, 97, 98, 102, 102, 54, 97, 102, 52, 49, 52, 57, 102, 53, 49, 98]⟩
theorem rfc_unhex : unhex rfcDigits.data.toList = some rfcKey := by decide +kernel
end Go.Proofs.Ytioodeiloepaaaa
