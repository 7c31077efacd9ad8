/-
  Contract of sha's mix: the block that waits is taken into the state. Conditions: the object lies in a block of its own; the tables lie as the program lays them.
-/
import Derived.Test.YtmgamjbifffchaaDoorShaW
namespace Go.Proofs.YtmgamjbifffchaaDoor
open Go.RowKit

theorem turned_e (v : Nat) (w : World) (hv : v < 4294967296) :
    Calls Tryd.prog 20 #[.int .u32 (v : Int), .int .i64 6, .int .i64 11, .int .i64 25] w fun e w' => e = .returned (.int .u32 ((tri v 6 11 25 : Nat) : Int)) ∧ w' = w :=
  (turned_any v 6 11 25 w hv (by decide) (by decide) (by decide)).mono fun _ _ h => ⟨h.1, h.2.symm⟩
theorem turned_a (v : Nat) (w : World) (hv : v < 4294967296) :
    Calls Tryd.prog 20 #[.int .u32 (v : Int), .int .i64 2, .int .i64 13, .int .i64 22] w fun e w' => e = .returned (.int .u32 ((tri v 2 13 22 : Nat) : Int)) ∧ w = w' :=
  turned_any v 2 13 22 w hv (by decide) (by decide) (by decide)
def natAt (l : List Nat) (k : Nat) : Nat := l.getD k 0
theorem natAt_lt {l : List Nat} (h : small l) (k : Nat) : natAt l k < 4294967296 := getD_lt h (by decide) k
theorem natAt_at {l : List Nat} {n k : Nat} (h : l.length = n) (hk : k < n) : (u32v l)[k]? = some (.int .u32 ((natAt l k : Nat) : Int)) := by
  have hl : k < l.length := by omega
  simp [u32v_at, natAt, List.getElem?_eq_getElem hl]
theorem zip_drop (l : List Nat) (k : Nat) (hl : l.length = 64) (h : k < 64) : (K64.zip l).drop k = (roundAt k / 4294967296, natAt l k) :: (K64.zip l).drop (k + 1) := by
  have h1 : k < K64.length := by have := table_len; simp [K64]; omega
  have h2 : k < l.length := by rw [hl]; exact h
  have h3 : k < (K64.zip l).length := by rw [List.length_zip]; omega
  rw [List.drop_eq_getElem_cons h3, List.getElem_zip]
  have h4 : k < table.length := by rw [table_len]; omega
  simp [K64, roundAt, natAt, List.getElem?_eq_getElem h4, List.getElem?_eq_getElem h2]
theorem zip_end (l : List Nat) (hl : l.length = 64) : (K64.zip l).drop 64 = [] := List.drop_eq_nil_of_le (by rw [List.length_zip]; omega)
/-- The rounds that are left from k on. -/
def left (t : St) (l : List Nat) (k : Nat) : St := rnds t ((K64.zip l).drop k)
theorem left_next (t : St) (l : List Nat) (k : Nat) (hl : l.length = 64) (h : k < 64) : left t l k = left (rnd t (roundAt k / 4294967296) (natAt l k)) l (k + 1) := by rw [left, zip_drop l k hl h, rnds, left]
theorem left_end (t : St) (l : List Nat) (hl : l.length = 64) : left t l 64 = t := by rw [left, zip_end l hl, rnds]
theorem spread_ex (w : World) (g : Nat) (s : St) (rest : List UInt8) (n : Nat) (ho : SObj w g s rest n) :
    Calls Tryd.prog 19 #[.pointer (some ⟨g, 0, none⟩)] w fun e w' => ∃ sch, e = .returned (.agg (u32v sch).toArray) ∧ sch = schedule rest ∧ Below w.heap.size w w' :=
  (spread_any w g s rest n ho).mono fun _ _ h => ⟨_, h.1, rfl, h.2⟩

theorem ch_int (e f g : Nat) (he : e < 4294967296) (hf : f < 4294967296) (hg : g < 4294967296) :
    bits .xor .u32 (bits .and .u32 (e : Int) (f : Int)) (bits .and .u32 (bits .xor .u32 IntKind.u32.max (e : Int)) (g : Int)) = (((e &&& f) ^^^ ((4294967295 ^^^ e) &&& g) : Nat) : Int) := by
  have h0 : IntKind.u32.max = ((4294967295 : Nat) : Int) := by decide
  have h1 : 4294967295 ^^^ e < 4294967296 := xor32 (by decide) he
  rw [h0, u32_and_nat _ _ he hf, u32_xor_nat _ _ (by decide) he, u32_and_nat _ _ h1 hg, u32_xor_nat _ _ (and32 he) (and32 h1)]
theorem mj_int (a b c : Nat) (ha : a < 4294967296) (hb : b < 4294967296) (hc : c < 4294967296) :
    bits .xor .u32 (bits .xor .u32 (bits .and .u32 (a : Int) (b : Int)) (bits .and .u32 (a : Int) (c : Int))) (bits .and .u32 (b : Int) (c : Int)) = ((((a &&& b) ^^^ (a &&& c)) ^^^ (b &&& c) : Nat) : Int) := by
  rw [u32_and_nat _ _ ha hb, u32_and_nat _ _ ha hc, u32_and_nat _ _ hb hc, u32_xor_nat _ _ (and32 ha) (and32 ha), u32_xor_nat _ _ (xor32 (and32 ha) (and32 ha)) (and32 hb)]
theorem rv_int (t : St) (ht : t.ok) (k w : Nat) : ((w : Int) + ((k : Int) / 4294967296 + (t.h : Int) + ((tri t.e 6 11 25 : Nat) : Int) + bits .xor .u32 (bits .and .u32 (t.e : Int) (t.f : Int)) (bits .and .u32 (bits .xor .u32 IntKind.u32.max (t.e : Int)) (t.g : Int)))) % 4294967296 = ((rv t (k / 4294967296) w : Nat) : Int) := by
  obtain ⟨ha, hb, hc, hd, he, hf, hg, hh⟩ := ht
  rw [ch_int _ _ _ he hf hg, rv]
  omega
theorem ru_int (t : St) (ht : t.ok) : (((tri t.a 2 13 22 : Nat) : Int) + bits .xor .u32 (bits .xor .u32 (bits .and .u32 (t.a : Int) (t.b : Int)) (bits .and .u32 (t.a : Int) (t.c : Int))) (bits .and .u32 (t.b : Int) (t.c : Int))) % 4294967296 = ((ru t : Nat) : Int) := by
  obtain ⟨ha, hb, hc, hd, he, hf, hg, hh⟩ := ht
  rw [mj_int _ _ _ ha hb hc, ru]
  omega

/-- The state with its first k words added. -/
def addc (s t : St) : Nat → List Nat
  | 0 => s.list
  | k + 1 => (addc s t k).set k ((s.at_ k + t.at_ k) % 4294967296)
theorem addc_len (s t : St) : ∀ k, (addc s t k).length = 8
  | 0 => rfl
  | k + 1 => by simp [addc, addc_len s t k]
theorem addc_end (s t : St) : addc s t 8 = (add8 s t).list := rfl
theorem st_at (s : St) (k : Nat) (hk : k < 8) : s.list[k]? = some (s.at_ k) := by
  have hl : k < s.list.length := hk
  simp [St.at_, List.getElem?_eq_getElem hl]
theorem addc_at (s t : St) : ∀ (k j : Nat), k ≤ j → j < 8 → (addc s t k)[j]? = some (s.at_ j)
  | 0, j, _, h => st_at s j h
  | k + 1, j, h1, h2 => by rw [addc, List.getElem?_set_ne (by omega)]; exact addc_at s t k j (by omega) h2
theorem at_lt (s : St) (h : s.ok) (k : Nat) : s.at_ k < 4294967296 := by
  obtain ⟨ha, hb, hc, hd, he, hf, hg, hh⟩ := h
  refine getD_lt (fun x hx => ?_) (by decide) k
  simp [St.list] at hx
  rcases hx with rfl | rfl | rfl | rfl | rfl | rfl | rfl | rfl <;> assumption
/-- The object while its state is being added to. -/
def addo (s t : St) (rest : List UInt8) (n k : Nat) : List Value := u32v (addc s t k) ++ (bv rest ++ [.int .i64 (n : Int)])
theorem addo_set (s t : St) (rest : List UInt8) (n k : Nat) (hk : k < 8) : (addo s t rest n k).set k (.int .u32 (((s.at_ k + t.at_ k) % 4294967296 : Nat) : Int)) = addo s t rest n (k + 1) := by
  rw [addo, List.set_append_left _ _ (by rw [u32v_len, addc_len]; exact hk), u32v_set, addo, addc]
theorem addo_at (s t : St) (rest : List UInt8) (n k : Nat) (hk : k < 8) : (addo s t rest n k)[k]? = some (.int .u32 ((s.at_ k : Nat) : Int)) := by
  rw [addo, List.getElem?_append_left (by rw [u32v_len, addc_len]; exact hk), u32v_at, addc_at s t k k (Nat.le_refl _) hk]; rfl

set_option maxRecDepth 100000 in
set_option maxHeartbeats 1000000 in
theorem mix_any (w : World) (g : Nat) (s : St) (rest : List UInt8) (n : Nat) (ho : SObj w g s rest n) (hl : Laid w) (hs : s.ok) :
    Calls Tryd.prog 16 #[.pointer (some ⟨g, 0, none⟩)] w fun e w' => e = .returned (.tuple #[]) ∧ SObj w' g (comp s rest) rest n ∧ But g w w' := by
  have hz := zero_w64
  have hgl := ho.lt
  go_enter Tryd.func16, Tryd.ntmps16
  go_wp2_with fail
  refine (spread_ex w g s rest n ho).mono ?_
  rintro e w1 ⟨sch, rfl, hsch, hb1⟩
  have HS := Lib.hid hsch
  have hlen := Lib.hid (show sch.length = 64 by rw [hsch]; exact schedule_len rest)
  have hsm : small sch := by rw [hsch]; exact schedule_small rest
  clear hsch
  have H64 := Lib.hid (show (u32v sch).toArray.size = 64 by simp [u32v_len, hlen.out])
  go_wp2_with ((with_reducible refine wpList_store_row rfl 53 (.tmp 2) (.tmp 17) rfl w1.heap.size (u32v sch).toArray rfl rfl 53 _ (heap_alloc_new _ _) (by rw [H64.out]; kernel_rfl) (by rw [H64.out]; simp [u32v_len]) (all_oneCell_toArray (u32v_one _)) ?_); rw [World.setRow_alloc_new])
  generalize hw2 : w1.alloc (.cells (u32v sch).toArray 53) = w2
  have hb2 : Below w.heap.size w w2 := by rw [← hw2]; exact hb1.alloc hb1.size _
  have hgB : w2.heap[w1.heap.size]? = some (.cells (u32v sch).toArray 53 (0, 0)) := by rw [← hw2]; exact heap_alloc_new _ _
  have HGB := Lib.hid hgB
  have hs1 := hb1.size
  clear hw2 hgB hz
  have ho2 := ho.below hgl hb2
  have c0 := ho2.st 0 (by decide)
  have c1 := ho2.st 1 (by decide)
  have c2 := ho2.st 2 (by decide)
  have c3 := ho2.st 3 (by decide)
  have c4 := ho2.st 4 (by decide)
  have c5 := ho2.st 5 (by decide)
  have c6 := ho2.st 6 (by decide)
  have c7 := ho2.st 7 (by decide)
  go_quiet (fail)
  generalize hw3 : w2.drewN nq = w3
  have hb3 : Below w.heap.size w w3 := by rw [← hw3]; exact below_drewN hb2 _
  have HGB3 := Lib.hid (show w3.heap[w1.heap.size]? = some (.cells (u32v sch).toArray 53 (0, 0)) by rw [← hw3]; exact HGB.out)
  clear hw3 HGB c0 c1 c2 c3 c4 c5 c6 c7 ho2
  have ho2 := ho.below hgl hb3
  have c4 := ho2.st 4 (by decide)
  have c5 := ho2.st 5 (by decide)
  have c6 := ho2.st 6 (by decide)
  have c7 := ho2.st 7 (by decide)
  clear ho2
  go_wp2_with fail
  go_quiet (fail)
  generalize hw4 : w3.drewN nq = w4
  have hb4 : Below w.heap.size w w4 := by rw [← hw4]; exact below_drewN hb3 _
  have HGB := Lib.hid (show w4.heap[w1.heap.size]? = some (.cells (u32v sch).toArray 53 (0, 0)) by rw [← hw4]; exact HGB3.out)
  clear hw4 HGB3 c4 c5 c6 c7 hb3 hb2
  go_wp2_with ((with_reducible refine wpList_load_row rfl 53 (.tmp 2) rfl w1.heap.size rfl 53 (u32v sch).toArray (0, 0) _ HGB.out Tryd.underlying53 rfl (by rw [H64.out]; kernel_rfl) ?_))
  go_loopw [3, 4, 5, 6, 7, 8, 9, 10, 59] (fun a b c d e f g' h i wr => ∃ (t : St) (k : Nat), k ≤ 64 ∧ i = .int .i64 (k : Int) ∧ a = .int .u32 (t.a : Int) ∧ b = .int .u32 (t.b : Int) ∧ c = .int .u32 (t.c : Int) ∧ d = .int .u32 (t.d : Int) ∧ e = .int .u32 (t.e : Int) ∧ f = .int .u32 (t.f : Int) ∧ g' = .int .u32 (t.g : Int) ∧ h = .int .u32 (t.h : Int) ∧ t.ok ∧ Hid (left t sch k = left s sch 0) ∧ Below w.heap.size w wr) (fun _ _ _ _ _ _ _ _ i _ => 64 - (intOf i).toNat)
  case atStart => exact ⟨s, 0, by omega, rfl, rfl, rfl, rfl, rfl, rfl, rfl, rfl, rfl, hs, rfl, hb4⟩
  case round =>
    clear HGB hb4
    obtain ⟨t, k, hk, rfl, rfl, rfl, rfl, rfl, rfl, rfl, rfl, rfl, ht, hrn, hb⟩ := hrel
    by_cases hlt : k < 64
    · have hix := at_agg Tryd.underlying53 Tryd.sizeU32 Tryd.underlying45 (u32v sch) k _ (k : Int) rfl hlt (natAt_at hlen.out hlt)
      have hr := (hl.below hl.2.2 hb).round k (by omega)
      have hta := ht
      obtain ⟨ha, hbb, hc, hd, he, hf, hgg, hh⟩ := hta
      go_wp2_with fail
      go_quiet ((go_at_call 20; exact Calls.quiet_of_same (turned_e _ _ he)))
      generalize hw5 : wr.drewN nq = w5
      have hb5 : Below w.heap.size w w5 := by rw [← hw5]; exact below_drewN hb _
      clear hw5 hr hix
      go_wp2_with fail
      refine (turned_a _ _ ha).mono ?_
      rintro e w' ⟨rfl, rfl⟩
      go_wp2
      go_roundw
      case rel =>
        refine ⟨rnd t (roundAt k / 4294967296) (natAt sch k), k + 1, by omega, by go_num, ?_, rfl, rfl, rfl, ?_, rfl, rfl, rfl, rnd_ok _ _ _ ht, ?_, hb5⟩
        · rw [rv_int t ht, ru_int t ht]
          show Value.int .u32 _ = Value.int .u32 (((rv t (roundAt k / 4294967296) (natAt sch k) + ru t) % 4294967296 : Nat) : Int)
          congr 1
        · rw [rv_int t ht]
          show Value.int .u32 _ = Value.int .u32 (((t.d + rv t (roundAt k / 4294967296) (natAt sch k)) % 4294967296 : Nat) : Int)
          congr 1
        · exact (left_next t sch k hlen.out hlt).symm.trans hrn.out
      case measure => simp [intOf]; omega
    · have HK := Lib.hid (show k = 64 by omega)
      have hte : t = left s sch 0 := by rw [← hrn.out, HK.out, left_end t sch hlen.out]
      have HT := Lib.hid hte
      clear hte hrn HK
      have ho2 := ho.below hgl hb
      go_wp2
      go_loopw [120] (fun i wr => ∃ k : Nat, k ≤ 8 ∧ i = .int .i64 (k : Int) ∧ Hid (wr.heap[g]? = some (.cells (addo s t rest n k).toArray 48 (0, 0))) ∧ But g w wr) (fun i _ => 8 - (intOf i).toNat)
      case atStart => exact ⟨0, by omega, rfl, ho2.1, But.of_below hb (Nat.le_refl _)⟩
      case round =>
        clear hb ho2
        obtain ⟨kk, hkk, rfl, hgo, hbut⟩ := hrel
        by_cases hlt2 : kk < 8
        · have hix : ∀ W, (Instr.index 46 (.agg #[.int .u32 (t.a : Int), .int .u32 (t.b : Int), .int .u32 (t.c : Int), .int .u32 (t.d : Int), .int .u32 (t.e : Int), .int .u32 (t.f : Int), .int .u32 (t.g : Int), .int .u32 (t.h : Int)]) (.int .i64 (kk : Int))).run Tryd.prog W = .ok (.int .u32 ((t.at_ kk : Nat) : Int)) W :=
            at_agg Tryd.underlying46 Tryd.sizeU32 Tryd.underlying45 (u32v t.list) kk _ (kk : Int) rfl hlt2 (by rw [u32v_at, st_at t kk hlt2]; rfl)
          have hc : wr.cell? ⟨g, kk, none⟩ = some (.int .u32 ((s.at_ kk : Nat) : Int)) := by rw [cell_of_row _ _ _ _ _ _ hgo.out]; simpa using addo_at s t rest n kk hlt2
          have hf : wr.frozen? ⟨g, kk, none⟩ = false := frozen_of_row _ _ _ _ _ hgo.out
          have l1 := at_lt s hs kk
          have l2 := at_lt t ht kk
          go_wp2_with fail
          go_region
          go_wp2
          go_roundw
          case rel =>
            refine ⟨kk + 1, by omega, by go_num, ?_, (hbut.set _).drew⟩
            have h1 := heap_setCell_same wr g kk _ _ (.int .u32 (((s.at_ kk + t.at_ kk) % 4294967296 : Nat) : Int)) hgo.out
            rw [← addo_set s t rest n kk hlt2]
            refine Eq.trans ?_ (h1.trans (by simp))
            rfl
          case measure => simp [intOf]; omega
        · have e8 : kk = 8 := by omega
          have hsc := HS.out
          go_wp2
          go_end0
          refine ⟨rfl, ⟨?_, ho.2⟩, hbut⟩
          have h1 := hgo.out
          rw [e8] at h1
          have h2 : comp s rest = add8 s t := by rw [HT.out, comp, hsc]; rfl
          rw [h2]
          exact h1
end Go.Proofs.YtmgamjbifffchaaDoor
