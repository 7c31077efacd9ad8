/-
  Contract of law 5's awake: true. Conditions: none.
-/
import Derived.Test.YtioodeiloepaaaaPlW
namespace Go.Proofs.Ytioodeiloepaaaa
open Go.RowKit

/-- The tag of one part, which lies in the newest block but one. -/
theorem tag_one (w : World) (key m : List UInt8) (M : Array Value) (hM : M.toList = bv m) (f : Nat × Nat) (n : Nat) (hk : key.length = 32) (hn : m.length = n) (hn2 : n ≤ 1048576) :
    Calls Try.prog 9 #[.agg (bv key).toArray, .slice (some ⟨w.heap.size + 1, 0, none⟩) 1 1] ((w.alloc (.cells M 5 f)).alloc (.cells #[.slice (some ⟨w.heap.size, 0, none⟩) n n] 27)) fun e w' => e = .returned (.agg (bv (tagOf key m)).toArray) ∧ Below w.heap.size w w' := by
  have b1 : Below w.heap.size w (w.alloc (.cells M 5 f)) := (Below.refl _ _).alloc (Nat.le_refl _) _
  have b2 : Below w.heap.size w ((w.alloc (.cells M 5 f)).alloc (.cells #[.slice (some ⟨w.heap.size, 0, none⟩) n n] 27)) := b1.alloc b1.size _
  have hm := Byt.lit_cold w 5 M f m hM
  have e1 : (w.alloc (.cells M 5 f)).heap.size = w.heap.size + 1 := by simp
  have hp := Prt.one (E := 27) hm hn (Nat.le_refl n)
  rw [e1] at hp
  have e3 : [m].flatten = m := by simp
  have h := ptagAll_any _ key (some ⟨w.heap.size + 1, 0, none⟩) [m] 1 1 hk hp rfl (by rw [e3]; omega) (by decide)
  rw [e3] at h
  exact h.mono fun _ _ ⟨h1, h2⟩ => ⟨h1, b2.trans (h2.mono b2.size)⟩

set_option maxRecDepth 100000 in
set_option maxHeartbeats 1000000 in
theorem awake5_any (w : World) :
    Calls Try.prog 8 #[] w fun e w' => e = .returned (.bool true) ∧ Below w.heap.size w w' := by
  have hz16 := zero_b16
  have kc := fun (w : World) (C : Array Value) (n c : Nat) => Lib.run_convert_bytes_const (P := Try.prog) w 27 5 C n c Try.underlying27 Try.underlying5
  go_enter Try.func8, Try.ntmps8
  go_wp2_with fail
  refine (word5_any w rfcDigits rfcKey (by decide) rfc_unhex rfl).mono ?_
  rintro e w1 ⟨rfl, hb1⟩
  go_wp2_with fail
  refine (tag_one w1 rfcKey rfcMsg _ rfl _ 34 rfl rfl (by decide)).mono ?_
  rintro e w2 ⟨rfl, hb2⟩
  rw [rfc_known]
  clear kc
  have HS := Lib.hid (show (bv rfcTag).toArray.size = 16 from rfl)
  have HZ16 := Lib.hid (show (bv z16).toArray.size = 16 from rfl)
  have hb12 := below_next hb1 hb1.size hb2
  have hb3 : Below w2.heap.size w2 (w2.alloc (.cells (bv rfcTag).toArray 23)) := (Below.refl _ _).alloc (Nat.le_refl _) _
  have hbt := byt_row (heap_alloc_new w2 (.cells (bv rfcTag).toArray 23))
  have hhex := refHex_any (some ⟨w2.heap.size, 0, none⟩) rfcTag 16 16 _ hbt rfl (by omega)
  have hcut := cut_all Try.underlying23 Try.sizeByte w2.heap.size 0 (by decide)
  go_wp2_with ((with_reducible refine wpList_store_row rfl 23 (.tmp 1) (.tmp 6) rfl w2.heap.size (bv rfcTag).toArray rfl rfl 23 _ (heap_alloc_new _ _) (by rw [HS.out]; kernel_rfl) (by rw [HS.out]; exact HZ16.out) (all_oneCell_toArray (bv_one _)) ?_); rw [World.setRow_alloc_new])
  refine hhex.mono ?_
  rintro e w3 ⟨rfl, hb4⟩
  rw [rfc_hex]
  clear hhex hbt hcut
  go_wp2
  go_ret
  exact ⟨rfl, below_next hb12 hb12.size (hb3.trans (hb4.mono hb3.size))⟩
end Go.Proofs.Ytioodeiloepaaaa
