/-
  The third layer's awake: a known HMAC, reckoned by the kernel. Conditions: the tables lie as the program lays them.
-/
import Derived.Test.YtmgamjbifffchaaDoorKdfB
import Derived.Test.YtmgamjbifffchaaDoorRefD
import Derived.Lib.SlBytesConst
namespace Go.Proofs.YtmgamjbifffchaaDoor
open Go.RowKit

def foxKey : List UInt8 := [107, 101, 121]
def fox : List UInt8 := [84, 104, 101, 32, 113, 117, 105, 99, 107, 32, 98, 114, 111, 119, 110, 32, 102, 111, 120, 32, 106, 117, 109, 112, 115, 32, 111, 118, 101, 114, 32, 116, 104, 101, 32, 108, 97, 122, 121, 32, 100, 111, 103]
def foxMac : List UInt8 := [247, 188, 131, 244, 48, 83, 132, 36, 177, 50, 152, 230, 170, 111, 177, 67, 239, 77, 89, 161, 73, 70, 23, 89, 151, 71, 157, 188, 45, 26, 60, 216]
theorem fox_known : macOf foxKey fox = foxMac := by decide +kernel
theorem fox_hex : hexd foxMac = [102, 55, 98, 99, 56, 51, 102, 52, 51, 48, 53, 51, 56, 52, 50, 52, 98, 49, 51, 50, 57, 56, 101, 54, 97, 97, 54, 102, 98, 49, 52, 51, 101, 102, 52, 100, 53, 57, 97, 49, 52, 57, 52, 54, 49, 55, 53, 57, 57, 55, 52, 55, 57, 100, 98, 99, 50, 100, 49, 97, 51, 99, 100, 56] := by decide +kernel

theorem Byt.lit_cold (w : World) (E : TypeId) (cs : Array Value) (fr : Nat × Nat) (l : List UInt8) (h : cs.toList = bv l) : Byt (w.alloc (.cells cs E fr)) (w.alloc (.cells cs E fr)).heap.size (some ⟨w.heap.size, 0, none⟩) l := by
  refine .inr ⟨w.heap.size, 0, rfl, by simp, fun j b hj => ?_⟩
  rw [Nat.zero_add, cell_of_row _ _ _ _ _ _ (heap_alloc_new w _)]
  have h1 := bv_at l j
  rw [hj, ← h] at h1
  simpa using h1
theorem fox_mac (w : World) (K M : Array Value) (hK : K.toList = bv foxKey) (hM : M.toList = bv fox) (f g : Nat × Nat) (hla : Laid w) :
    Calls Tryd.prog 8 #[.slice (some ⟨w.heap.size, 0, none⟩) 3 3, .slice (some ⟨w.heap.size + 2, 0, none⟩) 1 1] (((w.alloc (.cells K 5 f)).alloc (.cells M 5 g)).alloc (.cells #[.slice (some ⟨w.heap.size + 1, 0, none⟩) 43 43] 24)) fun e w' => e = .returned (.agg (bv foxMac).toArray) ∧ Below w.heap.size w w' := by
  have b1 : Below w.heap.size w (w.alloc (.cells K 5 f)) := (Below.refl _ _).alloc (Nat.le_refl _) _
  have b2 : Below w.heap.size w ((w.alloc (.cells K 5 f)).alloc (.cells M 5 g)) := b1.alloc b1.size _
  have b3 : Below w.heap.size w (((w.alloc (.cells K 5 f)).alloc (.cells M 5 g)).alloc (.cells #[.slice (some ⟨w.heap.size + 1, 0, none⟩) 43 43] 24)) := b2.alloc b2.size _
  have hk := Byt.lit_cold w 5 K f foxKey hK
  have hm := Byt.lit_cold (w.alloc (.cells K 5 f)) 5 M g fox hM
  have e1 : (w.alloc (.cells K 5 f)).heap.size = w.heap.size + 1 := by simp
  have e2 : ((w.alloc (.cells K 5 f)).alloc (.cells M 5 g)).heap.size = w.heap.size + 2 := by simp
  rw [e1] at hk hm
  have hk3 := ((hk.alloc (by rw [e1]; exact Nat.le_refl _) (.cells M 5 g)).alloc (by rw [e2]; omega) (.cells #[.slice (some ⟨w.heap.size + 1, 0, none⟩) 43 43] 24)).up (by simp : w.heap.size + 1 ≤ (((w.alloc (.cells K 5 f)).alloc (.cells M 5 g)).alloc (.cells #[.slice (some ⟨w.heap.size + 1, 0, none⟩) 43 43] 24)).heap.size)
  have hp := Prt.one (E := 24) hm (show fox.length = 43 from rfl) (Nat.le_refl 43)
  rw [e2] at hp
  have h := mac_any _ (some ⟨w.heap.size, 0, none⟩) foxKey 3 3 (some ⟨w.heap.size + 2, 0, none⟩) [fox] 1 1 hk3 rfl (by omega) (by omega) hp rfl (by omega) (by decide) (hla.below hla.2.2 b3)
  refine h.mono ?_
  rintro e w' ⟨rfl, hb⟩
  refine ⟨?_, b3.trans (hb.mono b3.size)⟩
  have e3 : [fox].flatten = fox := by simp
  rw [e3, fox_known]

set_option maxRecDepth 100000 in
set_option maxHeartbeats 1000000 in
theorem awake_any (w : World) (hla : Laid w) :
    Calls Tryd.prog 5 #[] w fun e w' => e = .returned (.bool true) ∧ Below w.heap.size w w' := by
  have hzw := zero_word
  have kc := fun (w : World) (C : Array Value) (n c : Nat) => Lib.run_convert_bytes_const (P := Tryd.prog) w 24 5 C n c Tryd.underlying24 Tryd.underlying5
  have kc2 : ∀ (o : Obj) (C : Array Value) (n c : Nat), (convert 24 24 (.slice (some ⟨w.heap.size + 1, 0, none⟩) n c)).run Tryd.prog ((w.alloc o).alloc (.cells C 5)) = .ok (.slice (some ⟨w.heap.size + 1, 0, none⟩) n c) ((w.alloc o).alloc (.cells C 5 (C.size, C.size + 1))) := by
    intro o C n c
    have h1 := kc (w.alloc o) C n c
    have e1 : (w.alloc o).heap.size = w.heap.size + 1 := by simp
    rw [e1] at h1
    exact h1
  go_enter Tryd.func5, Tryd.ntmps5
  go_wp2_with fail
  refine (fox_mac w _ _ rfl rfl _ _ hla).mono ?_
  rintro e w2 ⟨rfl, hb2⟩
  clear kc kc2
  have HS := Lib.hid (show (bv foxMac).toArray.size = 32 from rfl)
  have HZ3 := Lib.hid (show (bv z32).toArray.size = 32 from rfl)
  have hb3 : Below w2.heap.size w2 (w2.alloc (.cells (bv foxMac).toArray 23)) := (Below.refl _ _).alloc (Nat.le_refl _) _
  have hbt := byt_row (heap_alloc_new w2 (.cells (bv foxMac).toArray 23))
  have hhex := refHex_any (some ⟨w2.heap.size, 0, none⟩) foxMac 32 32 _ hbt rfl (by omega)
  have hcut := cut_all Tryd.underlying23 Tryd.sizeByte w2.heap.size 0 (by decide)
  go_wp2_with ((with_reducible refine wpList_store_row rfl 23 (.tmp 1) (.tmp 7) rfl w2.heap.size (bv foxMac).toArray rfl rfl 23 _ (heap_alloc_new _ _) (by rw [HS.out]; kernel_rfl) (by rw [HS.out]; exact HZ3.out) (all_oneCell_toArray (bv_one _)) ?_); rw [World.setRow_alloc_new])
  refine hhex.mono ?_
  rintro e w3 ⟨rfl, hb4⟩
  rw [fox_hex]
  clear hhex hbt hcut
  go_wp2
  go_ret
  exact ⟨rfl, below_next hb2 hb2.size (hb3.trans (hb4.mono hb3.size))⟩
end Go.Proofs.YtmgamjbifffchaaDoor
