/-
  Contracts of law 10's word and awake: RFC 8032's first case, its numbers reckoned by the kernel. Conditions: word's: 64 digits; awake's: the packages' own numbers lie as the program's text lays them.
-/
import Derived.Test.YtcefdcjpddohaaaDoorPkN
import Derived.Test.YtcefdcjpddohaaaDoorPkO
namespace Go.Proofs.YtcefdcjpddohaaaDoor
open Go.RowKit

theorem zero_w10 (w : World) : (zeroValue 23).run Tryd.prog w = .ok (.agg (bv z32).toArray) w := by kernel_rfl
theorem built_w10 : Tryd.prog.built 23 [] = some (bv z32).toArray := by kernel_rfl
set_option maxRecDepth 100000 in
set_option maxHeartbeats 1000000 in
theorem word10_any (w : World) (s : ByteArray) (l : List UInt8) (hs : s.size ≤ 140737488355328) (h : unhex s.data.toList = some l) (hl : l.length = 32) :
    Calls Tryd.prog 11 #[.string s] w fun e w' => ∃ x, e = .returned (.agg (bv x).toArray) ∧ Vlt (x = l) ∧ Hid (x.length = 32) ∧ Below w.heap.size w w' := by
  have hzw := zero_w10
  have hw1 : Below w.heap.size w (w.alloc (.cells (bv z32).toArray 23)) := (Below.refl _ _).alloc (Nat.le_refl _) _
  have hun := refUnhex_ok s l (w.alloc (.cells (bv z32).toArray 23)) hs h
  have hzR := heap_alloc_new w (.cells (bv z32).toArray 23)
  have hszR : w.heap.size < (w.alloc (.cells (bv z32).toArray 23)).heap.size := by simp
  rw [hl] at hun
  have HL := Lib.hid hl
  have HS := Lib.hid (show (bv l).toArray.size = 32 by simp [bv_len, hl])
  have HZ3 := Lib.hid (show (bv z32).toArray.size = 32 from rfl)
  have HZL := Lib.hid (show (bv z32).length = 32 from rfl)
  clear h hs hl
  go_enter Tryd.func11, Tryd.ntmps11
  go_wp2_with fail
  refine hun.mono ?_
  rintro e w3 ⟨A3, c3, rfl, hr3, hb3⟩
  clear hun
  have hb3' := below_next hw1 hw1.size hb3
  have hz3 : Hid (w3.heap[w.heap.size]? = some (.cells (bv z32).toArray 23 (0, 0))) := (hb3.block _ hszR).trans hzR
  have hz3l : w.heap.size < w3.heap.size := (Array.getElem?_eq_some_iff.1 hz3.out).1
  go_upto_region 3 with (first
    | (with_reducible refine wpList_build_to rfl 23 _ rfl [] (by rfl) _ built_w10 ?_)
    | ((with_reducible refine wpList_store_row rfl 23 (.tmp 5) (.tmp 11) rfl w3.heap.size (bv z32).toArray rfl rfl 23 _ (heap_alloc_new _ _) (by rw [HZ3.out]; kernel_rfl) (by rw [HZ3.out]) (all_oneCell_toArray (bv_one _)) ?_); rw [World.setRow_alloc_new]))
  have hw4 : Below w3.heap.size w3 (w3.alloc (.cells (bv z32).toArray 23)) := (Below.refl _ _).alloc (Nat.le_refl _) _
  have hg4 := Lib.hid (heap_alloc_new w3 (.cells (bv z32).toArray 23))
  have hcut := cut_all Tryd.underlying23 Tryd.sizeByte w3.heap.size 0 (by decide)
  have hsrc := (hr3.byt.below hw4).src (some ⟨w3.heap.size, 0, none⟩) _ rfl
  generalize w3.alloc (.cells (bv z32).toArray 23) = w4 at *
  go_wp2_with (with_reducible refine wpList_copy_splice rfl (.tmp 12) (.tmp 13) 24 24 rfl 5 Tryd.underlying24 Tryd.sizeByte (some ⟨w3.heap.size, 0, none⟩) A3 32 32 32 c3 rfl rfl w3.heap.size 0 (bv z32) 23 hg4.out (bv l) (by rw [bv_len, HL.out]; decide) hsrc (by rw [bv_len, HL.out, HZL.out]; omega) (bv_one _) w3.heap.size _ (Below.refl _ _) (Nat.le_refl _) ?_)
  intro w5 hg5 hb5
  have hX5 : Hid (w5.heap[w3.heap.size]? = some (.cells (bv l).toArray 23 (0, 0))) := by
    have h1 := hg5.out
    have h2 : splice (bv z32) 0 (bv l) = bv l := by
      rw [splice, List.take_zero, List.nil_append, Nat.zero_add, List.drop_eq_nil_of_le (by rw [bv_len l, HL.out, HZL.out]; exact Nat.le_refl _), List.append_nil]
    rw [h2] at h1
    exact h1
  have hz5 : Hid (w5.heap[w.heap.size]? = some (.cells (bv z32).toArray 23 (0, 0))) := (hb5.block _ hz3l).trans ((hw4.block _ hz3l).trans hz3.out)
  have hb6 : Below w.heap.size w w5 := (hb3'.trans (hw4.mono hb3'.size)).trans (hb5.mono hb3'.size)
  clear hg5 hb5 hg4 hw4 hr3 hz3 hb3' hsrc hcut
  go_wp2_with (first
    | (with_reducible refine wpList_load_row rfl 23 (.tmp 5) rfl w3.heap.size rfl 23 (bv l).toArray (0, 0) _ hX5.out Tryd.underlying23 rfl (by rw [HS.out]; kernel_rfl) ?_)
    | (with_reducible refine wpList_store_row rfl 23 (.tmp 2) (.tmp 15) rfl w.heap.size (bv l).toArray rfl rfl 23 _ hz5.out (by rw [HS.out]; kernel_rfl) (by rw [HS.out]; exact HZ3.out) (all_oneCell_toArray (bv_one _)) ?_))
  refine bodyPost_ret (v := .agg (bv l).toArray) (results_cell_row Tryd.results11 _ _ w.heap.size 23 _ (0, 0) _ rfl (setRow_heap _ _ _ _ _ _ hz5.out) Tryd.underlying23 rfl (by rw [HS.out]; kernel_rfl)) rfl ⟨l, rfl, vlt rfl, HL, below_setRow hb6 (Nat.le_refl _) _⟩

def dig10 : ByteArray := ⟨#[57, 100, 54, 49, 98, 49, 57, 100, 101, 102, 102, 100, 53, 97, 54, 48, 98, 97, 56, 52, 52, 97, 102, 52, 57, 50, 101, 99, 50, 99, 99, 52, 52, 52, 52, 57, 99, 53, 54, 57, 55, 98, 51, 50, 54, 57, 49, 57, 55, 48, 51, 98, 97, 99, 48, 51, 49, 99, 97, 101, 55, 102, 54, 48]⟩
theorem unhex10 : unhex dig10.data.toList = some rfcSeed := by decide +kernel
theorem pub10 : pubL rfcSeed = [215, 90, 152, 1, 130, 177, 10, 183, 213, 75, 254, 211, 201, 100, 7, 58, 14, 225, 114, 243, 218, 166, 35, 37, 175, 2, 26, 104, 247, 7, 81, 26] := by
  rw [pubL, baseL, secL, rfc_long, rfa_is, nRfa_enc]
theorem half10 : (halfL rfcSeed []).take 8 = [229, 86, 67, 0, 195, 96, 172, 114] := by
  rw [halfL, onceL, List.append_nil, ownL, rfc_long, hsh, rfc_next, baseL, ln_wl, rfr_is, nRfr_enc]
  rfl
theorem hexp10 {p : List UInt8} (h : p = pubL rfcSeed) : hexd p = [100, 55, 53, 97, 57, 56, 48, 49, 56, 50, 98, 49, 48, 97, 98, 55, 100, 53, 52, 98, 102, 101, 100, 51, 99, 57, 54, 52, 48, 55, 51, 97, 48, 101, 101, 49, 55, 50, 102, 51, 100, 97, 97, 54, 50, 51, 50, 53, 97, 102, 48, 50, 49, 97, 54, 56, 102, 55, 48, 55, 53, 49, 49, 97] := by rw [h, pub10]; decide +kernel
theorem hexs10 {s x : List UInt8} (h : s = signL x [].flatten) (hx : x = rfcSeed) : hexd (sub s 0 8) = [101, 53, 53, 54, 52, 51, 48, 48, 99, 51, 54, 48, 97, 99, 55, 50] := by
  have e : sub s 0 8 = (halfL rfcSeed []).take 8 := by
    rw [h, hx, sub, List.drop_zero, List.flatten_nil, signL, List.take_append_of_le_length (by rw [halfL_len]; decide)]
  rw [e, half10]; decide +kernel
theorem ver_only {p s m : List UInt8} {a b : Bool} (h : VerIs p s m a) (k : VerIs p s m b) : a = b := by
  unfold VerIs at h k
  rw [← h] at k
  cases a <;> cases b <;> simp_all
set_option maxRecDepth 100000 in
set_option maxHeartbeats 4000000 in
theorem awake10_any (w : World) (hla : LaidG w) : Calls Tryd.prog 6 #[] w fun e w' => e = .returned (.bool true) ∧ Below w.heap.size w w' := by
  have hzw := zero_word
  have hzs := zero_sig
  have hHG := hla.hi (Nat.le_refl _)
  go_enter Tryd.func6, Tryd.ntmps6
  go_wp2_with fail
  refine (word10_any w dig10 rfcSeed (by decide) unhex10 rfl).mono ?_
  rintro e w1 ⟨x, rfl, hx10, hx, hb1⟩
  have HS := Lib.hid (bv_size x hx.out)
  have HZ := Lib.hid (show (bv z32).toArray.size = 32 from rfl)
  go_upto_region 2 with ((with_reducible refine wpList_store_row rfl 23 (.tmp 1) (.tmp 4) rfl w1.heap.size (bv x).toArray rfl rfl 23 _ (heap_alloc_new _ _) (by rw [HS.out]; kernel_rfl) (by rw [HS.out]; exact HZ.out) (all_oneCell_toArray (bv_one _)) ?_); rw [World.setRow_alloc_new])
  have gn1_V1 : Hid ((w1.alloc (.cells (bv x).toArray 23)).heap[w1.heap.size]? = some (.cells (bv x).toArray 23 (0, 0))) := heap_alloc_new _ _
  have hw2 : Below w1.heap.size w1 (w1.alloc (.cells (bv x).toArray 23)) := (Below.refl _ _).alloc (Nat.le_refl _) _
  have hb_V1 := below_next hb1 hb1.size hw2
  have hlaV1 := hla.next hb_V1
  have wG1 := hb1.size
  clear hla hw2 hb1 HS
  generalize w1.alloc (.cells (bv x).toArray 23) = V1 at *
  generalize w1.heap.size = G1 at *
  have sn1_V1 := row_size gn1_V1
  refine wp_region_held_drew (S := fun W' => Below V1.heap.size V1 W') (by kernel_rfl) ((Below.refl _ _).drew) (fun hHeld => ?_)
  refine wpAnyH_take (i := 0) (oi := ⟨(some 5), _, _, _, _, _⟩) (v := _) rfl (by kernel_rfl) (by kernel_rfl) (by kernel_rfl) (fun _ _ _ h => h) (yieldsIf_load_mid (by rfl) _ _ rfl G1 0 rfl (bv x) _ (fun W' hW' => range_row ((hW'.block _ sn1_V1).trans gn1_V1.out)) (Tryd.underlying23) rfl (by rw [bv_len, hx.out]; kernel_rfl)) hHeld ?_
  try simp only [pu]
  refine wpAnyH_take (i := 2) (oi := ⟨(some 7), _, _, _, _, _⟩) (v := _) rfl (by kernel_rfl) (by kernel_rfl) (by kernel_rfl) (fun _ _ _ h => h) (yieldsIf_load_mid (by rfl) _ _ rfl G1 0 rfl (bv x) _ (fun W' hW' => range_row ((hW'.block _ sn1_V1).trans gn1_V1.out)) (Tryd.underlying23) rfl (by rw [bv_len, hx.out]; kernel_rfl)) hHeld ?_
  try simp only [pu]
  refine mixX_start (B := V1.heap.size) (al := [⟨4, 2, 23, ((bv z32)).toArray, fun g => .pointer (some ⟨g, 0, none⟩)⟩, ⟨5, 3, 28, ((bv z64)).toArray, fun g => .pointer (some ⟨g, 0, none⟩)⟩]) (fuel := 4) rfl hHeld (hHeld.size) ?_
  clear hHeld
  refine mixX_call (i := 1) (o := ⟨(some 6), _, _, _, _, _⟩) rfl (by kernel_rfl) (by kernel_rfl) (by kernel_rfl) (by kernel_rfl) (by simp) (by simp) (fun x hx => by simp only [List.mem_cons, List.not_mem_nil, or_false] at hx; rcases hx with rfl | rfl <;> first | exact makesX_new rfl (by kernel_rfl) rfl rfl rfl zero_word | exact makesX_new rfl (by kernel_rfl) rfl rfl rfl zero_sig) (fun W x _ h => h.alloc h.size _) (fun _ _ _ _ _ h => h) (fun X1 hHeld hBX K hK => ?_)
  try simp only [pu]
  go_simp
  refine (public_any _ (hlaV1.next hHeld) x hx.out).mono ?_
  rintro e W1 ⟨p, rfl, eP, hp, hb1⟩
  refine hK.out _ _ (below_next hHeld hHeld.size hb1) hb1 ?_
  clear hK K hHeld hBX hb1
  try simp only [pu]
  refine mixX_call (i := 3) (o := ⟨(some 8), _, _, _, _, _⟩) rfl (by kernel_rfl) (by kernel_rfl) (by kernel_rfl) (by kernel_rfl) (by simp) (by simp) (fun x hx => by simp only [List.mem_cons, List.not_mem_nil, or_false] at hx; rcases hx with rfl | rfl <;> first | exact makesX_new rfl (by kernel_rfl) rfl rfl rfl zero_word | exact makesX_new rfl (by kernel_rfl) rfl rfl rfl zero_sig) (fun W x _ h => h.alloc h.size _) (fun _ _ _ _ _ h => h) (fun X2 hHeld hBX K hK => ?_)
  try simp only [pu]
  go_simp
  refine (sign_any _ (hlaV1.next hHeld) x hx.out none 0 0 [] (Lst.none_ _) (by decide) (by decide)).mono ?_
  rintro e W2 ⟨s, rfl, eS, hs, hb2⟩
  refine hK.out _ _ (below_next hHeld hHeld.size hb2) hb2 ?_
  clear hK K hHeld hBX hb2
  try simp only [pu]
  refine mixX_end (by kernel_rfl) (by kernel_rfl) (fun _ _ _ _ _ h => h) (by simp) (by simp) (fun x hx => by simp only [List.mem_cons, List.not_mem_nil, or_false] at hx; rcases hx with rfl | rfl <;> first | exact makesX_new rfl (by kernel_rfl) rfl rfl rfl zero_word | exact makesX_new rfl (by kernel_rfl) rfl rfl rfl zero_sig) (fun W x _ h => h.alloc h.size _) (fun D hD W3 hHeld hBX hHo => ?_)
  obtain ⟨G2, G3, rfl⟩ := x_two hD
  have xG2 : Hid (W3.heap[G2]? = some (.cells ((bv z32)).toArray 23 (0, 0))) := hHo.row (⟨4, 2, 23, ((bv z32)).toArray, fun g => .pointer (some ⟨g, 0, none⟩)⟩, G2) (by simp)
  have lG2 : V1.heap.size ≤ G2 := hHo.new (⟨4, 2, 23, ((bv z32)).toArray, fun g => .pointer (some ⟨g, 0, none⟩)⟩, G2) (by simp)
  have xG3 : Hid (W3.heap[G3]? = some (.cells ((bv z64)).toArray 28 (0, 0))) := hHo.row (⟨5, 3, 28, ((bv z64)).toArray, fun g => .pointer (some ⟨g, 0, none⟩)⟩, G3) (by simp)
  have lG3 : V1.heap.size ≤ G3 := hHo.new (⟨5, 3, 28, ((bv z64)).toArray, fun g => .pointer (some ⟨g, 0, none⟩)⟩, G3) (by simp)
  have hnd := hHo.nodup
  simp only [List.map_cons, List.map_nil, List.nodup_cons, List.mem_cons, List.not_mem_nil, or_false, not_false_eq_true, List.nodup_nil, and_true] at hnd
  have nG2G3 := hnd
  clear hnd
  clear hHo hBX hD
  simp only [markDX, putX, List.foldr_cons, List.foldr_nil, pu, List.setIfInBounds_toArray, List.set_cons_zero, List.set_cons_succ]
  refine wpAnyH_ready (rs := [6]) (by kernel_rfl) (by simp) ?_
  refine AllReadyH.cons (i := 6) (o := ⟨none, _, _, _, _, _⟩) rfl (fun K hK => ?_) AllReadyH.nil
  refine step_row (by rfl) 23 (.tmp 2) (.tmp 6) rfl G2 (bv p) rfl rfl 23 _ xG2.out (by rw [bv_len, hp.out]; kernel_rfl) (by rw [List.size_toArray, bv_len, bv_len, hp.out, z32_len]) (bv_one _) ?_
  intro W4 yG2 kG2
  have zG3 := row_but xG3 kG2 (by omega)
  clear xG3
  have xG3 := zG3
  clear zG3
  refine hK.out _ _ (But.below hHeld kG2 lG2 hHeld.size) (fun hHeld => ?_)
  clear hK K kG2 xG2
  have xG2 := yG2
  clear yG2
  try simp only [pu]
  refine wpAnyH_ready (rs := [7]) (by kernel_rfl) (by simp) ?_
  refine AllReadyH.cons (i := 7) (o := ⟨none, _, _, _, _, _⟩) rfl (fun K hK => ?_) AllReadyH.nil
  refine step_row (by rfl) 28 (.tmp 3) (.tmp 8) rfl G3 (bv s) rfl rfl 28 _ xG3.out (by rw [bv_len, hs.out]; kernel_rfl) (by rw [List.size_toArray, bv_len, bv_len, hs.out, z64_len]) (bv_one _) ?_
  intro W5 yG3 kG3
  have zG2 := row_but xG2 kG3 (by omega)
  clear xG2
  have xG2 := zG2
  clear zG2
  refine hK.out _ _ (But.below hHeld kG3 lG3 hHeld.size) (fun hHeld => ?_)
  clear hK K kG3 xG3
  have xG3 := yG3
  clear yG3
  try simp only [pu]
  refine wpAnyH_done (by kernel_rfl) ?_ _
  obtain ⟨V2, rV2⟩ : ∃ X, X = W5 := ⟨_, rfl⟩
  subst rV2
  have gn1_V2 := row_next2 gn1_V1 hHeld
  have sn1_V2 := row_size gn1_V2
  have hb_V2 := below_next hb_V1 hb_V1.size hHeld
  have hlaV2 := hlaV1.next hHeld
  have gn2_V2 := xG2
  have sn2_V2 := row_size gn2_V2
  clear xG2
  have wG2 : w.heap.size + 0 ≤ G2 := by omega
  have gn3_V2 := xG3
  have sn3_V2 := row_size gn3_V2
  clear xG3
  have wG3 : w.heap.size + 0 ≤ G3 := by omega
  have nG1G2 : G1 ≠ G2 := by omega
  have nG1G3 : G1 ≠ G3 := by omega
  clear hHeld hb_V1 hlaV1 sn1_V1 gn1_V1 lG2 lG3
  go_upto_region 3 with fail
  have HX1 := vlt (hexp10 (eP.out.trans (by rw [hx10.out])))
  have HX2 := vlt (hexs10 eS.out hx10.out)
  have HVE := vlt (show VerIs p s [].flatten true by rw [eP.out, eS.out]; exact ver_sign _ _)
  refine plain_start (S := fun W' => Below V2.heap.size V2 W') (by kernel_rfl) (Below.refl _ _) (fun hHeld => ?_)
  have hcut0 := cut_all Tryd.underlying23 Tryd.sizeByte G2 0 (by decide)
  refine wpAnyH_take (i := 0) (oi := ⟨(some 9), _, _, _, _, _⟩) (v := .slice (some ⟨G2, 0, none⟩) 32 32) rfl (by kernel_rfl) (by kernel_rfl) (by kernel_rfl) (fun _ _ _ h => h) (Or.inl ⟨by rfl, ?y2_0⟩) hHeld ?_
  case y2_0 => (intro W0 hSw; go_simp; try simp only [hcut0]; try with_reducible rfl)
  try simp only [pu]
  clear hcut0
  refine mixX_start (B := V2.heap.size) (al := []) (fuel := 13) rfl hHeld (hHeld.size) ?_
  clear hHeld
  refine mixX_call (i := 1) (o := ⟨(some 10), _, _, _, _, _⟩) rfl (by kernel_rfl) (by kernel_rfl) (by kernel_rfl) (by kernel_rfl) (by simp) (by simp) (fun x hx => by cases hx) (fun W x _ h => h.alloc h.size _) (fun _ _ _ _ _ h => h) (fun X6 hHeld hBX K hK => ?_)
  try simp only [pu]
  go_simp
  refine (refHex_any (some ⟨G2, 0, none⟩) p 32 32 _ (byt_row (row_next2 gn2_V2 hHeld)) hp.out (by decide)).mono ?_
  rintro e W6 ⟨rfl, hb6⟩
  rw [HX1.out]
  refine hK.out _ _ (below_next hHeld hHeld.size hb6) hb6 ?_
  clear hK K hHeld hBX hb6
  try simp only [pu]
  refine mixX_take (i := 2) (o := ⟨(some 11), _, _, _, _, _⟩) (v := .bool true) rfl (by kernel_rfl) (by kernel_rfl) (by kernel_rfl) (by kernel_rfl) (by kernel_rfl) (fun _ _ _ h => h) (Or.inl ⟨by rfl, ?y2_2⟩) ?_
  case y2_2 => (intro W0 hSw; go_simp; try with_reducible rfl)
  try simp only [pu]
  refine mixX_take (i := 3) (o := ⟨(some 12), _, _, _, _, _⟩) (v := .bool true) rfl (by kernel_rfl) (by kernel_rfl) (by kernel_rfl) (by kernel_rfl) (by kernel_rfl) (fun _ _ _ h => h) (Or.inl ⟨by rfl, ?y2_3⟩) ?_
  case y2_3 => (intro W0 hSw; go_simp; try with_reducible rfl)
  try simp only [pu]
  have hcut4 := cut_h Tryd.underlying28 Tryd.sizeByte G3 0 8 8 rfl (by decide) (by decide)
  refine mixX_take (i := 4) (o := ⟨(some 13), _, _, _, _, _⟩) (v := .slice (some ⟨G3, 0, none⟩) 8 64) rfl (by kernel_rfl) (by kernel_rfl) (by kernel_rfl) (by kernel_rfl) (by kernel_rfl) (fun _ _ _ h => h) (Or.inl ⟨by rfl, ?y2_4⟩) ?_
  case y2_4 => (intro W0 hSw; go_simp; try simp only [hcut4]; try with_reducible rfl)
  try simp only [pu]
  clear hcut4
  refine mixX_call (i := 5) (o := ⟨(some 14), _, _, _, _, _⟩) rfl (by kernel_rfl) (by kernel_rfl) (by kernel_rfl) (by kernel_rfl) (by simp) (by simp) (fun x hx => by cases hx) (fun W x _ h => h.alloc h.size _) (fun _ _ _ _ _ h => h) (fun X7 hHeld hBX K hK => ?_)
  try simp only [pu]
  go_simp
  refine (refHex_any (some ⟨G3, 0, none⟩) (sub s 0 8) 8 64 _ (byt_mid (row_next2 gn3_V2 hHeld).out 0 8) (sub_len _ _ _ (by rw [hs.out]; decide)) (by decide)).mono ?_
  rintro e W7 ⟨rfl, hb7⟩
  rw [HX2.out]
  refine hK.out _ _ (below_next hHeld hHeld.size hb7) hb7 ?_
  clear hK K hHeld hBX hb7
  try simp only [pu]
  refine mixX_take (i := 6) (o := ⟨(some 15), _, _, _, _, _⟩) (v := .bool true) rfl (by kernel_rfl) (by kernel_rfl) (by kernel_rfl) (by kernel_rfl) (by kernel_rfl) (fun _ _ _ h => h) (Or.inl ⟨by rfl, ?y2_6⟩) ?_
  case y2_6 => (intro W0 hSw; go_simp; try with_reducible rfl)
  try simp only [pu]
  refine mixX_take (i := 7) (o := ⟨(some 16), _, _, _, _, _⟩) (v := .bool true) rfl (by kernel_rfl) (by kernel_rfl) (by kernel_rfl) (by kernel_rfl) (by kernel_rfl) (fun _ _ _ h => h) (Or.inl ⟨by rfl, ?y2_7⟩) ?_
  case y2_7 => (intro W0 hSw; go_simp; try with_reducible rfl)
  try simp only [pu]
  refine mixX_take (i := 8) (o := ⟨(some 17), _, _, _, _, _⟩) (v := .bool true) rfl (by kernel_rfl) (by kernel_rfl) (by kernel_rfl) (by kernel_rfl) (by kernel_rfl) (fun _ _ _ h => h) (Or.inl ⟨by rfl, ?y2_8⟩) ?_
  case y2_8 => (intro W0 hSw; go_simp; try with_reducible rfl)
  try simp only [pu]
  refine mixX_take (i := 9) (o := ⟨(some 18), _, _, _, _, _⟩) (v := _) rfl (by kernel_rfl) (by kernel_rfl) (by kernel_rfl) (by kernel_rfl) (by kernel_rfl) (fun _ _ _ h => h) (yieldsIf_load_mid (by rfl) _ _ rfl G2 0 rfl (bv p) _ (fun W' hW' => range_row ((hW'.block _ sn2_V2).trans gn2_V2.out)) (Tryd.underlying23) rfl (by rw [bv_len, hp.out]; kernel_rfl)) ?_
  try simp only [pu]
  refine mixX_take (i := 10) (o := ⟨(some 19), _, _, _, _, _⟩) (v := _) rfl (by kernel_rfl) (by kernel_rfl) (by kernel_rfl) (by kernel_rfl) (by kernel_rfl) (fun _ _ _ h => h) (yieldsIf_load_mid (by rfl) _ _ rfl G3 0 rfl (bv s) _ (fun W' hW' => range_row ((hW'.block _ sn3_V2).trans gn3_V2.out)) (Tryd.underlying28) rfl (by rw [bv_len, hs.out]; kernel_rfl)) ?_
  try simp only [pu]
  refine mixX_call (i := 11) (o := ⟨(some 20), _, _, _, _, _⟩) rfl (by kernel_rfl) (by kernel_rfl) (by kernel_rfl) (by kernel_rfl) (by simp) (by simp) (fun x hx => by cases hx) (fun W x _ h => h.alloc h.size _) (fun _ _ _ _ _ h => h) (fun X8 hHeld hBX K hK => ?_)
  try simp only [pu]
  go_simp
  refine (verify_any _ (hlaV2.next hHeld) p s hp.out hs.out none 0 0 [] (Lst.none_ _) (by decide) (by decide)).mono ?_
  rintro e W8 ⟨ok, rfl, eV, hb8⟩
  obtain rfl : ok = true := ver_only eV.out HVE.out
  clear eV
  refine hK.out _ _ (below_next hHeld hHeld.size hb8) hb8 ?_
  clear hK K hHeld hBX hb8
  try simp only [pu]
  refine mixX_take (i := 12) (o := ⟨(some 21), _, _, _, _, _⟩) (v := .bool true) rfl (by kernel_rfl) (by kernel_rfl) (by kernel_rfl) (by kernel_rfl) (by kernel_rfl) (fun _ _ _ h => h) (Or.inl ⟨by rfl, ?y2_12⟩) ?_
  case y2_12 => (intro W0 hSw; go_simp; try with_reducible rfl)
  try simp only [pu]
  refine mixX_take (i := 13) (o := ⟨(some 0), _, _, _, _, _⟩) (v := .bool true) rfl (by kernel_rfl) (by kernel_rfl) (by kernel_rfl) (by kernel_rfl) (by kernel_rfl) (fun _ _ _ h => h) (Or.inl ⟨by rfl, ?y2_13⟩) ?_
  case y2_13 => (intro W0 hSw; go_simp; try with_reducible rfl)
  try simp only [pu]
  refine mixX_nil (fun W9 hHeld hBX => ?_)
  clear hBX
  refine wpAnyH_done (by kernel_rfl) ?_ _
  obtain ⟨V3, rV3⟩ : ∃ X, X = W9 := ⟨_, rfl⟩
  subst rV3
  have gn1_V3 := row_next2 gn1_V2 hHeld
  have sn1_V3 := row_size gn1_V3
  have gn2_V3 := row_next2 gn2_V2 hHeld
  have sn2_V3 := row_size gn2_V3
  have gn3_V3 := row_next2 gn3_V2 hHeld
  have sn3_V3 := row_size gn3_V3
  have hb_V3 := below_next hb_V2 hb_V2.size hHeld
  have hlaV3 := hlaV2.next hHeld
  clear hHeld hb_V2 hlaV2 sn1_V2 gn1_V2 sn2_V2 gn2_V2 sn3_V2 gn3_V2 
  go_wp2_with fail
  go_ret
  exact ⟨rfl, hb_V3⟩
end Go.Proofs.YtcefdcjpddohaaaDoor
