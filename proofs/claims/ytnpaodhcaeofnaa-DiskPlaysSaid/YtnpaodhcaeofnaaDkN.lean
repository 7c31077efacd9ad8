/-
  Names, and the contracts of isName and ready. No statement is proved here. Conditions: none.
-/
import Derived.Test.YtnpaodhcaeofnaaDkM
namespace Go.Proofs.Ytnpaodhcaeofnaa
open Go.RowKit

def mayB (b : UInt8) : Bool := decide (33 ≤ b.toNat) && decide (b.toNat ≤ 126)
def may (s : ByteArray) : Bool := decide (1 ≤ s.size) && decide (s.size ≤ 20) && s.data.toList.all mayB
theorem may_size {s : ByteArray} (h : may s = true) : s.size ≤ 20 := by simp [may] at h; omega
theorem all_take {l : List UInt8} {p : UInt8 → Bool} {k : Nat} {b : UInt8} (h : (l.take k).all p = true) (hb : l[k]? = some b) (hp : p b = true) : (l.take (k + 1)).all p = true := by
  rw [List.take_add_one, hb, List.all_append, h]; simp [hp]
theorem all_no {l : List UInt8} {p : UInt8 → Bool} {k : Nat} {b : UInt8} (hb : l[k]? = some b) (hp : p b = false) : l.all p = false := by
  rw [List.all_eq_false]
  exact ⟨b, List.mem_of_getElem? hb, by simp [hp]⟩

set_option maxRecDepth 100000 in
theorem isName_any (s : ByteArray) (w : World) (hs : s.size ≤ 140737488355328) : Calls Try.prog 36 #[.string s] w fun e w' => e = .returned (.bool (may s)) ∧ w' = w := by
  go_enter Try.func36, Try.ntmps36
  go_wp2
  go_loopw [6] (fun i wr => ∃ k : Nat, i = .int .i64 (k : Int) ∧ k ≤ s.size ∧ Vlt ((s.data.toList.take k).all mayB = true) ∧ wr = w) (fun i _ => s.size - (intOf i).toNat)
  case atStart => exact ⟨0, rfl, Nat.zero_le _, vlt rfl, rfl⟩
  case round =>
    obtain ⟨k, rfl, hk, h0, rfl⟩ := hrel
    by_cases hlt : k < s.size
    · have hb : s.data.toList[k]? = some s[k] := by
        show _ = some s.data[k]
        rw [List.getElem?_eq_getElem (by simpa using hlt)]; simp
      by_cases h1 : s[k].toNat < 33
      · have HN := vlt (show may s = false by
          have h2 := all_no (p := mayB) hb (by simp [mayB]; omega)
          unfold may; rw [h2]; simp)
        have h1' : (s[k].toNat : Int) < 33 := by omega
        clear hb h0
        go_wp2
        go_ret
        exact ⟨by rw [HN.out]; rfl, rfl⟩
      · have h1' : ¬ (s[k].toNat : Int) < 33 := by omega
        by_cases h3 : 126 < s[k].toNat
        · have HN := vlt (show may s = false by
            have h2 := all_no (p := mayB) hb (by simp [mayB]; omega)
            unfold may; rw [h2]; simp)
          have h3' : (126 : Int) < (s[k].toNat : Int) := by omega
          clear hb h0
          go_wp2
          go_ret
          exact ⟨by rw [HN.out]; rfl, rfl⟩
        · have h3' : ¬ (126 : Int) < (s[k].toNat : Int) := by omega
          have HT := vlt (all_take h0.out hb (by simp [mayB]; omega))
          clear hb h0
          go_wp2
          go_roundw
          case rel => exact ⟨k + 1, by go_num, by omega, HT, trivial⟩
          case measure => simp [intOf]; omega
    · obtain rfl : k = s.size := by omega
      have HM := vlt (show may s = (decide (1 ≤ s.size) && decide (s.size ≤ 20)) by
        have h2 := h0.out
        rw [List.take_of_length_le (by simp)] at h2
        unfold may; rw [h2]; simp)
      clear h0 hlt
      by_cases h1 : 1 ≤ s.size
      · by_cases h2 : s.size ≤ 20
        · have h1' : (1 : Int) ≤ (s.size : Int) := by omega
          have h2' : (s.size : Int) ≤ 20 := by omega
          go_wp2
          go_ret
          exact ⟨by rw [HM.out]; simp [h1, h2], rfl⟩
        · have h1' : (1 : Int) ≤ (s.size : Int) := by omega
          have h2' : ¬ (s.size : Int) ≤ 20 := by omega
          go_wp2
          go_ret
          exact ⟨by rw [HM.out]; simp [h1, h2], rfl⟩
      · have h1' : ¬ (1 : Int) ≤ (s.size : Int) := by omega
        go_wp2
        go_ret
        exact ⟨by rw [HM.out]; simp [h1], rfl⟩

/-- The answer of a call ahead of all others: EOFF without power, EARG of a name that is none. -/
def readyE (on : Bool) (s : ByteArray) : Int := if on then (if may s then 0 else 1) else 7
set_option maxRecDepth 100000 in
theorem ready_any (w : World) (d : Nat) (on : Bool) (s : ByteArray) (c3 : w.cell? ⟨d, 3, none⟩ = some (.bool on)) (hs : s.size ≤ 140737488355328) :
    Calls Try.prog 24 #[.pointer (some ⟨d, 0, none⟩), .string s] w fun e w' => e = .returned (.int .i64 (readyE on s)) ∧ w' = w := by
  have hn := isName_any s w hs
  cases on with
  | false =>
    clear hn
    go_enter Try.func24, Try.ntmps24
    go_wp2
    go_ret
    exact ⟨rfl, rfl⟩
  | true =>
    cases hm : may s with
    | true =>
      rw [hm] at hn
      have HE := Lib.hid (show readyE true s = 0 by simp [readyE, hm])
      clear hm
      go_enter Try.func24, Try.ntmps24
      go_wp2_with fail
      refine hn.mono ?_
      rintro e w2 ⟨rfl, rfl⟩
      clear hn
      go_wp2
      go_ret
      exact ⟨by rw [HE.out]; rfl, rfl⟩
    | false =>
      rw [hm] at hn
      have HE := Lib.hid (show readyE true s = 1 by simp [readyE, hm])
      clear hm
      go_enter Try.func24, Try.ntmps24
      go_wp2_with fail
      refine hn.mono ?_
      rintro e w2 ⟨rfl, rfl⟩
      clear hn
      go_wp2
      go_ret
      exact ⟨by rw [HE.out]; rfl, rfl⟩

/-- .. and ENONE of a name that has no file. -/
def findE (on : Bool) (s : ByteArray) (o : Option Nat) : Int := if readyE on s = 0 then (if o.isSome then 0 else 4) else readyE on s
def findP (on : Bool) (s : ByteArray) (o : Option Nat) : Option Nat := if readyE on s = 0 then o else none
set_option maxRecDepth 100000 in
theorem find_any (w : World) (d m N : Nat) (on : Bool) (F : ByteArray → Option Nat) (s : ByteArray) (c2 : w.cell? ⟨d, 2, none⟩ = some (.map (some m))) (c3 : w.cell? ⟨d, 3, none⟩ = some (.bool on)) (hm : MapIs w m N F) (hs : s.size ≤ 140737488355328) :
    Calls Try.prog 27 #[.pointer (some ⟨d, 0, none⟩), .string s] w fun e w' => e = .returned (.tuple #[ptrV (findP on s (F s)), .int .i64 (findE on s (F s))]) ∧ w' = w := by
  have hr := ready_any w d on s c3 hs
  have hl := hm.look (s := s) (by unfold maxLen; omega)
  clear hm
  by_cases h0 : readyE on s = 0
  · rw [h0] at hr
    cases hF : F s with
    | none =>
      rw [hF] at hl
      have HE := Lib.hid (show findE on s none = 4 ∧ findP on s none = none by simp [findE, findP, h0])
      clear h0 hF
      go_enter Try.func27, Try.ntmps27
      go_wp2_with fail
      refine hr.mono ?_
      rintro e w2 ⟨rfl, rfl⟩
      clear hr
      simp only [ptrV] at hl
      go_wp2
      go_ret2
      exact ⟨by rw [HE.out.1, HE.out.2]; rfl, rfl⟩
    | some g =>
      rw [hF] at hl
      have HE := Lib.hid (show findE on s (some g) = 0 ∧ findP on s (some g) = some g by simp [findE, findP, h0])
      clear h0 hF
      go_enter Try.func27, Try.ntmps27
      go_wp2_with fail
      refine hr.mono ?_
      rintro e w2 ⟨rfl, rfl⟩
      clear hr
      simp only [ptrV] at hl
      go_wp2
      go_ret2
      exact ⟨by rw [HE.out.1, HE.out.2]; rfl, rfl⟩
  · have HE := Lib.hid (show findE on s (F s) = readyE on s ∧ findP on s (F s) = none by simp [findE, findP, h0])
    clear hl
    generalize readyE on s = v at *
    go_enter Try.func27, Try.ntmps27
    go_wp2_with fail
    refine hr.mono ?_
    rintro e w2 ⟨rfl, rfl⟩
    clear hr
    go_wp2
    go_ret2
    exact ⟨by rw [HE.out.1, HE.out.2]; rfl, rfl⟩
end Go.Proofs.Ytnpaodhcaeofnaa
