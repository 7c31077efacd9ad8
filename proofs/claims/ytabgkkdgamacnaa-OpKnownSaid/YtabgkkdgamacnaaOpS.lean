/-
  Edits as numbers, lists and texts: which may be, what is written of one, which ends another, which is ahead. No statement is proved here. Conditions: none.
-/
import Derived.Test.YtabgkkdgamacnaaVcS
namespace Go.Proofs.Ytabgkkdgamacnaa
open Go.RowKit

structure Ed where
  dev : Int
  num : Int
  seen : List Int
  kind : Int
  con : ByteArray
  fld : ByteArray
  val : ByteArray
  time : Int
theorem Ed.same {a b : Ed} (h1 : a.dev = b.dev) (h2 : a.num = b.num) (h3 : a.seen = b.seen) (h4 : a.kind = b.kind) (h5 : a.con = b.con) (h6 : a.fld = b.fld) (h7 : a.val = b.val) (h8 : a.time = b.time) : a = b := by
  cases a; cases b; simp_all
instance : DecidableEq Ed := fun a b =>
  if h : a.dev = b.dev ∧ a.num = b.num ∧ a.seen = b.seen ∧ a.kind = b.kind ∧ a.con = b.con ∧ a.fld = b.fld ∧ a.val = b.val ∧ a.time = b.time then
    .isTrue (Ed.same h.1 h.2.1 h.2.2.1 h.2.2.2.1 h.2.2.2.2.1 h.2.2.2.2.2.1 h.2.2.2.2.2.2.1 h.2.2.2.2.2.2.2)
  else .isFalse fun e => h (by subst e; simp)
/-- Its cells in memory. -/
def Ed.cells (e : Ed) : List Value := [.int .i64 e.dev, .int .i64 e.num] ++ (i64v e.seen ++ [.int .i64 e.kind, .string e.con, .string e.fld, .string e.val, .int .i64 e.time])

def nmB (b : UInt8) : Bool := decide (33 ≤ b.toNat) && decide (b.toNat ≤ 126)
def nm (s : ByteArray) : Bool := decide (1 ≤ s.size) && decide (s.size ≤ 40) && s.data.toList.all nmB
def nxt (d n : Int) (s : List Int) : Bool := decide (0 ≤ d ∧ d < 8 ∧ 1 ≤ n ∧ n ≤ 1099511627776) && vgood s && decide (iat s d.toNat = n - 1)
def tsays (k : Int) (f v : ByteArray) : Bool := if k = 1 then nm f && decide (v.size ≤ 200) else if k = 2 then decide (f.size = 0) && decide (v.size = 0) else false
def Ed.good (e : Ed) : Bool := nxt e.dev e.num e.seen && decide (0 ≤ e.time ∧ e.time ≤ 1099511627776) && nm e.con && tsays e.kind e.fld e.val
def txt (s : ByteArray) : List UInt8 := gr s.size ++ s.data.toList
def Ed.raw (e : Ed) : List UInt8 := gr e.dev.toNat ++ (gr e.num.toNat ++ (vput e.seen ++ (gr e.kind.toNat ++ (gr e.time.toNat ++ (txt e.con ++ (txt e.fld ++ txt e.val))))))
def Ed.put (e : Ed) : List UInt8 := if e.good = true then e.raw else []
def eover (a b : Ed) : Bool := decide (b.kind = 1) && vhas a.seen b.dev b.num && decide (a.con = b.con) && (decide (a.kind = 2) || decide (a.kind = 1) && decide (a.fld = b.fld))
def eless (a b : Ed) : Bool := if a.time = b.time then (if a.dev = b.dev then decide (a.num < b.num) else decide (a.dev < b.dev)) else decide (a.time < b.time)
/-- More than the laws ask of. -/
def elong (e : Ed) : Bool := decide (60 < e.con.size) || decide (60 < e.fld.size) || decide (250 < e.val.size)

theorem nm_take {l : List UInt8} {k : Nat} {b : UInt8} (h : (l.take k).all nmB = true) (hb : l[k]? = some b) (hp : nmB b = true) : (l.take (k + 1)).all nmB = true := by
  rw [List.take_add_one, hb, List.all_append, h]; simp [hp]
theorem nm_no {l : List UInt8} {k : Nat} {b : UInt8} (hb : l[k]? = some b) (hp : nmB b = false) : l.all nmB = false := by
  rw [List.all_eq_false]
  exact ⟨b, List.mem_of_getElem? hb, by simp [hp]⟩
/-- What a good one has. -/
structure Fine (e : Ed) : Prop where
  dev : 0 ≤ e.dev ∧ e.dev < 8
  num : 1 ≤ e.num ∧ e.num ≤ 1099511627776
  seen : vgood e.seen = true
  prev : iat e.seen e.dev.toNat = e.num - 1
  time : 0 ≤ e.time ∧ e.time ≤ 1099511627776
  con : nm e.con = true
  kind : e.kind = 1 ∨ e.kind = 2
  fld : e.fld.size ≤ 40
  val : e.val.size ≤ 200
theorem nm_size {s : ByteArray} (h : nm s = true) : 1 ≤ s.size ∧ s.size ≤ 40 := by
  simp only [nm, Bool.and_eq_true, decide_eq_true_eq] at h
  exact h.1
theorem Ed.fine {e : Ed} (h : e.good = true) : Fine e := by
  simp only [Ed.good, nxt, Bool.and_eq_true, decide_eq_true_eq] at h
  obtain ⟨⟨⟨⟨⟨h1, h2⟩, h3⟩, h4⟩, h5⟩, h6⟩ := h
  have hk : e.kind = 1 ∨ e.kind = 2 := by
    unfold tsays at h6
    by_cases k1 : e.kind = 1
    · exact .inl k1
    · by_cases k2 : e.kind = 2
      · exact .inr k2
      · rw [if_neg k1, if_neg k2] at h6; exact absurd h6 Bool.false_ne_true
  have hf : e.fld.size ≤ 40 ∧ e.val.size ≤ 200 := by
    unfold tsays at h6
    rcases hk with k1 | k2
    · rw [if_pos k1] at h6
      simp only [Bool.and_eq_true, decide_eq_true_eq] at h6
      exact ⟨(nm_size h6.1).2, h6.2⟩
    · rw [if_neg (by omega), if_pos k2] at h6
      simp only [Bool.and_eq_true, decide_eq_true_eq] at h6
      omega
  exact ⟨⟨h1.1, h1.2.1⟩, ⟨h1.2.2.1, h1.2.2.2⟩, h2, h3, h4, h5, hk, hf.1, hf.2⟩
/-! What follows of these. -/
theorem over_own {a : Ed} (h : a.good = true) : eover a a = false := by
  have f := Ed.fine h
  have : vhas a.seen a.dev a.num = false := by
    rw [vhas, decide_eq_false_iff_not]
    have := f.prev
    omega
  simp [eover, this]
theorem less_own (a : Ed) : eless a a = false := by simp [eless]
theorem less_two (a b : Ed) : (eless a b && eless b a) = false := by
  rw [eless, eless]
  by_cases h1 : a.time = b.time
  · rw [if_pos h1, if_pos h1.symm]
    by_cases h2 : a.dev = b.dev
    · rw [if_pos h2, if_pos h2.symm, ← Bool.decide_and, decide_eq_false_iff_not]; omega
    · rw [if_neg h2, if_neg (fun e => h2 e.symm), ← Bool.decide_and, decide_eq_false_iff_not]; omega
  · rw [if_neg h1, if_neg (fun e => h1 e.symm), ← Bool.decide_and, decide_eq_false_iff_not]; omega
theorem less_iff (a b : Ed) : eless a b = true ↔ a.time < b.time ∨ a.time = b.time ∧ (a.dev < b.dev ∨ a.dev = b.dev ∧ a.num < b.num) := by
  rw [eless]
  split
  · split
    · rw [decide_eq_true_iff]; omega
    · rw [decide_eq_true_iff]; omega
  · rw [decide_eq_true_iff]; omega
theorem less_three {a b c : Ed} (h1 : eless a b = true) (h2 : eless b c = true) : eless a c = true := by
  rw [less_iff] at *; omega
theorem over_not {a b : Ed} (h : vhas a.seen b.dev b.num = false) : eover a b = false := by simp [eover, h]
theorem over_yes {a b : Ed} (ha : a.good = true) (hb : b.kind = 1) (h : vhas a.seen b.dev b.num = true) : eover a b = (decide (a.con = b.con) && (decide (a.kind = 2) || decide (a.fld = b.fld))) := by
  have f := Ed.fine ha
  rw [eover, h, hb]
  rcases f.kind with k | k <;> simp [k]
end Go.Proofs.Ytabgkkdgamacnaa
