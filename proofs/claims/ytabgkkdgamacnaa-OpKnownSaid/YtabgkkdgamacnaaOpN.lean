/-
  Contract of op's name: may a text be that of a contact or of a field? Conditions: a text of at most 2^47 bytes.
-/
import Derived.Test.YtabgkkdgamacnaaOpM
namespace Go.Proofs.Ytabgkkdgamacnaa
open Go.RowKit

set_option maxRecDepth 100000 in
theorem oname_any (w : World) (s : ByteArray) : Calls Try.prog 31 #[.string s] w fun e w' => e = .returned (.bool (nm s)) ∧ w = w' := by
  obtain ⟨o, ho⟩ : ∃ o, o = nm s := ⟨_, rfl⟩
  have HO := vlt ho
  rw [← ho]
  clear ho
  go_enter Try.func31, Try.ntmps31
  by_cases h1 : 1 ≤ s.size
  · by_cases h2 : s.size ≤ 40
    · have h1' : ¬ (s.size : Int) < 1 := by omega
      have h2' : ¬ (40 : Int) < (s.size : Int) := by omega
      go_wp2
      go_loopw [14, 3] (fun i _ wr => ∃ k : Nat, i = .int .i64 (k : Int) ∧ k ≤ s.size ∧ Vlt ((s.data.toList.take k).all nmB = true) ∧ wr = w) (fun i _ _ => s.size - (intOf i).toNat)
      case atStart => exact ⟨0, rfl, Nat.zero_le _, vlt rfl, rfl⟩
      case round =>
        obtain ⟨k, rfl, hk, h0, rfl⟩ := hrel
        by_cases hlt : k < s.size
        · have hb : s.data.toList[k]? = some s[k] := by
            show _ = some s.data[k]
            rw [List.getElem?_eq_getElem (by simpa using hlt)]; simp
          by_cases h3 : s[k].toNat < 33
          · have HN := vlt (show o = false by
              have h2 := nm_no hb (by simp [nmB]; omega)
              rw [HO.out]; unfold nm; rw [h2]; simp)
            have h3' : (s[k].toNat : Int) < 33 := by omega
            clear hb h0
            go_wp2
            go_ret
            exact ⟨by rw [HN.out]; rfl, rfl⟩
          · have h3' : ¬ (s[k].toNat : Int) < 33 := by omega
            by_cases h4 : 126 < s[k].toNat
            · have HN := vlt (show o = false by
                have h2 := nm_no hb (by simp [nmB]; omega)
                rw [HO.out]; unfold nm; rw [h2]; simp)
              have h4' : (126 : Int) < (s[k].toNat : Int) := by omega
              clear hb h0
              go_wp2
              go_ret
              exact ⟨by rw [HN.out]; rfl, rfl⟩
            · have h4' : ¬ (126 : Int) < (s[k].toNat : Int) := by omega
              have HT := vlt (nm_take h0.out hb (by simp [nmB]; omega))
              clear hb h0
              go_wp2
              go_roundw
              case rel => exact ⟨k + 1, by go_num, by omega, HT, trivial⟩
              case measure => simp [intOf]; omega
        · obtain rfl : k = s.size := by omega
          have HM := vlt (show o = true by
            have h3 := h0.out
            rw [List.take_of_length_le (by simp)] at h3
            rw [HO.out]; unfold nm; rw [h3]; simp [h1, h2])
          clear h0 hlt
          go_wp2
          go_ret
          exact ⟨by rw [HM.out]; rfl, rfl⟩
    · have h1' : ¬ (s.size : Int) < 1 := by omega
      have h2' : (40 : Int) < (s.size : Int) := by omega
      have HN := vlt (show o = false by rw [HO.out]; simp [nm]; omega)
      clear h1 h2
      go_wp2
      go_ret
      exact ⟨by rw [HN.out]; rfl, rfl⟩
  · have h1' : (s.size : Int) < 1 := by omega
    have HN := vlt (show o = false by rw [HO.out]; simp [nm]; omega)
    clear h1
    go_wp2
    go_ret
    exact ⟨by rw [HN.out]; rfl, rfl⟩
end Go.Proofs.Ytabgkkdgamacnaa
