/-
  Contract of vec's Put. Conditions: an array of eight numbers of 64 bits; fewer than 2^44 bytes ahead.
-/
import Derived.Test.YtabgkkdgamacnaaVcA
import Derived.Test.YtabgkkdgamacnaaWiNu
namespace Go.Proofs.Ytabgkkdgamacnaa
open Go.RowKit

/-- Numbers of 64 bits with a sign. -/
def I64s (a : List Int) : Prop := ∀ x ∈ a, -9223372036854775808 ≤ x ∧ x < 9223372036854775808
theorem I64s.at_ {a : List Int} (h : I64s a) {k : Nat} (hk : k < a.length) : (iat a k).toNat < 9223372036854775808 ∧ max (iat a k) 0 = ((iat a k).toNat : Int) := by
  have := h _ (mem_iat hk)
  omega
theorem vput_len {a : List Int} (ha : a.length = 8) : (vput a).length ≤ 72 := by
  have := vpt_le a 8 (by omega)
  rw [vpt_all ha] at this
  omega

set_option maxRecDepth 100000 in
set_option maxHeartbeats 1000000 in
theorem vput_any (w : World) (A : Option Addr) (l : List UInt8) (n c : Nat) (a : List Int) (hA : Byt w w.heap.size A l) (hl : l.length = n) (hc : n ≤ c) (hn : n ≤ 17592186044416) (ha : a.length = 8) (hr : Hid (I64s a)) :
    Calls Try.prog 28 #[.slice A n c, .agg (i64v a).toArray] w fun e w' => ∃ A' m c', e = .returned (.slice A' m c') ∧ Res w' w.heap.size 5 A' m c' (l ++ vput a) ∧ Below w.heap.size w w' := by
  obtain ⟨W, hW, hgW, hbW, hsW⟩ := one_new w (i64v a).toArray 26
  have HW := Lib.hid hW
  have HA := Lib.hid ha
  have HL := Lib.hid hl
  have hAW := hA.below hbW
  have hAW2 := hAW.up hbW.size
  clear hW ha hl hA hAW hsW
  go_enter Try.func28, Try.ntmps28
  go_upto_region 1 with fail
  rw [HW.out]
  clear HW
  go_wp2_with (with_reducible refine wpList_load_row rfl 26 (.tmp 3) rfl w.heap.size rfl 26 (i64v a).toArray (0, 0) _ hgW.out Try.underlying26 rfl (by rw [int8_size HA.out]; kernel_rfl) ?_)
  go_loopw [5, 9] (fun s i wr => ∃ (k m c' : Nat) (D : Option Addr), k ≤ 8 ∧ s = .slice D m c' ∧ i = .int .i64 (k : Int) ∧ m ≤ 72 ∧ Hid (Res wr W.heap.size 5 D m c' (vpt a k)) ∧ Below W.heap.size W wr) (fun _ i _ => 8 - (intOf i).toNat)
  case atStart => exact ⟨0, 0, 0, none, by omega, rfl, rfl, by omega, ⟨rfl, .inl ⟨rfl, rfl⟩⟩, Below.refl _ _⟩
  case round =>
    obtain ⟨k, m, c', D, hk, rfl, rfl, hm, HR, hb⟩ := hrel
    by_cases hlt : k < 8
    · have hkl : k < a.length := by rw [HA.out]; exact hlt
      have hcell : (i64v a)[k]? = some (.int .i64 (iat a k)) := by rw [i64v_at, iat_at hkl]; rfl
      have hix := fun W => at_agg (P := Try.prog) Try.underlying26 Try.sizeI64 Try.underlying2 (i64v a) k _ (k : Int) rfl hlt hcell W
      have hnum := wnum_any wr D (vpt a k) m c' (iat a k) (iat a k).toNat HR.out.byt HR.out.len HR.out.cap (by omega) (hr.out.at_ hkl).1 (hr.out.at_ hkl).2
      rw [← vpt_next hkl] at hnum
      have HLE := Lib.hid (vpt_le a (k + 1) (by rw [HA.out]; omega))
      generalize iat a k = y at hnum hix
      clear hcell HR
      go_wp2_with fail
      refine hnum.mono ?_
      rintro e w1 ⟨D1, m1, c1, rfl, hr1, hb1⟩
      have hm1 : m1 ≤ 72 := by have h1 := hr1.len; have h2 := HLE.out; omega
      have HR1 := Lib.hid (hr1.base_le hb.size)
      have hb2 := below_next hb hb.size hb1
      clear hnum hr1 hb1 hix
      go_wp2
      go_roundw
      case rel => exact ⟨k + 1, m1, c1, D1, by omega, rfl, by go_num, hm1, HR1, hb2⟩
      case measure => simp [intOf]; omega
    · obtain rfl : k = 8 := by omega
      have hr8 := HR.out
      rw [vpt_all HA.out] at hr8
      have hprt := Prt.two (E := 29) (hAW2.next hb) HL.out hc hr8.byt hr8.len hr8.cap
      have hcat := concat_b _ _ _ 2 2 hprt rfl (by decide) (by simp only [List.flatten_cons, List.flatten_nil, List.append_nil, List.length_append, HL.out]; have := hr8.len; omega)
      have hbw := below_next hbW hbW.size hb
      have hba := hbw.alloc hbw.size (.cells #[.slice A n c, .slice D m c'] 29)
      clear hprt hr8 HR
      go_wp2_with fail
      refine hcat.mono ?_
      rintro e w2 ⟨A2, n2, c2, rfl, hr2, hb2⟩
      have hr3 : Res w2 w.heap.size 5 A2 n2 c2 (l ++ vput a) := by
        have h := hr2.base_le hba.size
        simpa using h
      have hb3 := below_next hba hba.size hb2
      clear hr2 hcat
      go_wp2
      go_ret
      exact ⟨A2, n2, c2, rfl, hr3, hb3⟩
end Go.Proofs.Ytabgkkdgamacnaa
