/-
  Edits read out of bytes, by wire's reader and by the document's own. No statement is proved here. Conditions: none.
-/
import Derived.Test.YtabgkkdgamacnaaOpS
import Derived.Test.YtabgkkdgamacnaaVcG
namespace Go.Proofs.Ytabgkkdgamacnaa
open Go.RowKit

def noText : ByteArray := ⟨#[]⟩
/-- One text of at most m bytes read: the text, what is left, whether it is bad. -/
def rdt (m : Nat) (s : List UInt8 × Bool) : ByteArray × List UInt8 × Bool :=
  if (frontOf s.1).2 = 0 ∨ m < (frontOf s.1).1 ∨ (s.1.drop (frontOf s.1).2).length < (frontOf s.1).1 then (noText, [], true)
  else (⟨((s.1.drop (frontOf s.1).2).take (frontOf s.1).1).toArray⟩, (s.1.drop (frontOf s.1).2).drop (frontOf s.1).1, s.2)
/-- An edit read, a part behind the other. -/
structure ERead (s : List UInt8 × Bool) (e : Ed) (t : List UInt8 × Bool) : Prop where
  all : ∃ s1 s2 s3 s4 s5 s6 s7, rd1 7 s = (e.dev, s1) ∧ rd1 1099511627776 s1 = (e.num, s2) ∧ vrd s2 = (e.seen, s3) ∧ rd1 2 s3 = (e.kind, s4) ∧ rd1 1099511627776 s4 = (e.time, s5) ∧ rdt 40 s5 = (e.con, s6) ∧ rdt 40 s6 = (e.fld, s7) ∧ rdt 200 s7 = (e.val, t)
def eread (s : List UInt8 × Bool) : Ed × List UInt8 × Bool :=
  let a := rd1 7 s
  let b := rd1 1099511627776 a.2
  let c := vrd b.2
  let d := rd1 2 c.2
  let f := rd1 1099511627776 d.2
  let g := rdt 40 f.2
  let h := rdt 40 g.2
  let i := rdt 200 h.2
  (⟨a.1, b.1, c.1, d.1, g.1, h.1, i.1, f.1⟩, i.2)
theorem ERead.eq {s t : List UInt8 × Bool} {e : Ed} (h : ERead s e t) : eread s = (e, t) := by
  obtain ⟨s1, s2, s3, s4, s5, s6, s7, h1, h2, h3, h4, h5, h6, h7, h8⟩ := h.all
  simp only [eread, h1, h2, h3, h4, h5, h6, h7, h8]
theorem pair_is {α β : Type} (p : α × β) : ∃ x t, p = (x, t) := ⟨p.1, p.2, rfl⟩
theorem ERead.of (s : List UInt8 × Bool) : ERead s (eread s).1 (eread s).2 := by
  obtain ⟨x1, s1, h1⟩ := pair_is (rd1 7 s)
  obtain ⟨x2, s2, h2⟩ := pair_is (rd1 1099511627776 s1)
  obtain ⟨x3, s3, h3⟩ := pair_is (vrd s2)
  obtain ⟨x4, s4, h4⟩ := pair_is (rd1 2 s3)
  obtain ⟨x5, s5, h5⟩ := pair_is (rd1 1099511627776 s4)
  obtain ⟨x6, s6, h6⟩ := pair_is (rdt 40 s5)
  obtain ⟨x7, s7, h7⟩ := pair_is (rdt 40 s6)
  obtain ⟨x8, s8, h8⟩ := pair_is (rdt 200 s7)
  have h : ERead s ⟨x1, x2, x3, x4, x6, x7, x8, x5⟩ s8 := ⟨⟨s1, s2, s3, s4, s5, s6, s7, h1, h2, h3, h4, h5, h6, h7, h8⟩⟩
  rw [h.eq]
  exact h
/-- The edit that the bytes are, if they are one. -/
def egot (e : Ed) (t : List UInt8 × Bool) : Option Ed := if (!t.2 && decide (t.1.length = 0)) = true ∧ e.good = true then some e else none
def eget (l : List UInt8) : Option Ed := egot (eread (l, false)).1 (eread (l, false)).2

/-! What is written is read. -/
theorem rd1_gr {m : Nat} {x : Int} (hx : 0 ≤ x ∧ x ≤ (m : Int)) (hm : m < 9223372036854775808) (r : List UInt8) : rd1 m (gr x.toNat ++ r, false) = (x, r, false) := by
  have hf := front_gr x.toNat (by omega) r
  have hp := gr_pos x.toNat
  rw [rd1]; simp only
  rw [hf]; simp only
  rw [if_neg (by omega), List.drop_left, show ((x.toNat : Nat) : Int) = x by omega]
theorem rdt_txt {m : Nat} {s : ByteArray} (hm : s.size ≤ m) (hv : s.size < 9223372036854775808) (r : List UInt8) : rdt m (txt s ++ r, false) = (s, r, false) := by
  have hf := front_gr s.size hv (s.data.toList ++ r)
  have hp := gr_pos s.size
  have hz : s.data.toList.length = s.size := by simp
  rw [rdt, txt, List.append_assoc]; simp only
  rw [hf]; simp only
  rw [List.drop_left, if_neg (by rw [List.length_append]; omega), List.take_append_of_le_length (by omega), List.take_of_length_le (by omega), List.drop_append_of_le_length (by omega), List.drop_of_length_le (by omega), List.nil_append]
theorem vrd_put2 {a : List Int} (ha : a.length = 8) (hg : vgood a = true) (r : List UInt8) : vrd (vput a ++ r, false) = (a, r, false) := by
  have h := rdk_put hg r 8 (by omega)
  rw [List.take_of_length_le (by omega), List.drop_eq_nil_of_le (by omega)] at h
  rw [vrd, h]; rfl
theorem eget_put {e : Ed} (hl : e.seen.length = 8) (h : e.good = true) : eget e.put = some e := by
  have f := Ed.fine h
  have f1 := f.dev
  have f2 := f.num
  have f3 := f.time
  have f4 := f.kind
  have f5 := nm_size f.con
  have f6 := f.fld
  have f7 := f.val
  have hr : ERead (e.put, false) e ([], false) := by
    rw [Ed.put, if_pos h, Ed.raw]
    have h8 := rdt_txt (m := 200) (s := e.val) (by omega) (by omega) []
    rw [List.append_nil] at h8
    exact ⟨⟨_, _, _, _, _, _, _, rd1_gr (by omega) (by decide) _, rd1_gr (by omega) (by decide) _, vrd_put2 hl f.seen _, rd1_gr (by omega) (by decide) _, rd1_gr (by omega) (by decide) _, rdt_txt (by omega) (by omega) _, rdt_txt (by omega) (by omega) _, h8⟩⟩
  rw [eget, hr.eq, egot, if_pos ⟨rfl, h⟩]
theorem put_inj {a b : Ed} (ha : a.seen.length = 8) (hb : b.seen.length = 8) (ga : a.good = true) (gb : b.good = true) : decide (a.put = b.put) = decide (a = b) := by
  apply decide_eq_decide.2
  constructor
  · intro h
    have h1 := eget_put ha ga
    rw [h, eget_put hb gb] at h1
    exact (Option.some.inj h1).symm
  · rintro rfl; rfl

/-! What stands behind does not count. -/
theorem frL_more (r : List UInt8) : ∀ (l : List UInt8) (i a : Nat), (frL l i a).2 ≠ 0 → frL (l ++ r) i a = frL l i a
  | [], i, a, h => absurd rfl h
  | b :: l, i, a, h => by
    rw [frL] at h
    rw [List.cons_append, frL, frL]
    split
    · rename_i hb
      rw [if_pos hb] at h
      exact frL_more r l _ _ h
    · rfl
theorem front_more {l : List UInt8} (r : List UInt8) (h : (frontOf l).2 ≠ 0) : frontOf (l ++ r) = frontOf l := by
  rw [frontOf] at h
  rw [frontOf, frontOf, List.take_append]
  exact frL_more _ _ _ _ h
theorem rd1_more {m : Nat} {s t : List UInt8 × Bool} {x : Int} (h : rd1 m s = (x, t)) (ht : t.2 = false) (r : List UInt8) : s.2 = false ∧ rd1 m (s.1 ++ r, s.2) = (x, t.1 ++ r, t.2) := by
  rw [rd1] at h
  split at h
  · simp only [Prod.mk.injEq] at h
    rw [← h.2] at ht; exact absurd ht (by simp)
  · rename_i hc
    simp only [Prod.mk.injEq] at h
    obtain ⟨h1, rfl⟩ := h
    have hl := front_len s.1
    refine ⟨ht, ?_⟩
    rw [rd1]
    simp only
    rw [front_more r (by omega), if_neg hc, List.drop_append_of_le_length hl, h1]
theorem rdt_more {m : Nat} {s t : List UInt8 × Bool} {x : ByteArray} (h : rdt m s = (x, t)) (ht : t.2 = false) (r : List UInt8) : s.2 = false ∧ rdt m (s.1 ++ r, s.2) = (x, t.1 ++ r, t.2) := by
  rw [rdt] at h
  split at h
  · simp only [Prod.mk.injEq] at h
    rw [← h.2] at ht; exact absurd ht (by simp)
  · rename_i hc
    simp only [Prod.mk.injEq] at h
    obtain ⟨h1, rfl⟩ := h
    have hl := front_len s.1
    refine ⟨ht, ?_⟩
    rw [rdt]
    simp only
    rw [front_more r (by omega), List.drop_append_of_le_length hl, if_neg (by rw [List.length_append]; omega), List.take_append_of_le_length (by omega), List.drop_append_of_le_length (by omega), h1]
theorem rdk_more {m : Nat} {s : List UInt8 × Bool} (r : List UInt8) : ∀ k, (rdk m k s).2.2 = false → s.2 = false ∧ rdk m k (s.1 ++ r, s.2) = ((rdk m k s).1, (rdk m k s).2.1 ++ r, (rdk m k s).2.2)
  | 0, h => ⟨h, rfl⟩
  | k + 1, h => by
    have h1 := rd1_more (m := m) (s := (rdk m k s).2) (x := (rd1 m (rdk m k s).2).1) (t := (rd1 m (rdk m k s).2).2) rfl h r
    have h2 := rdk_more r k h1.1
    refine ⟨h2.1, ?_⟩
    rw [rdk, h2.2]
    have h3 := h1.2
    simp only
    rw [h3, rdk]
theorem vrd_more {s t : List UInt8 × Bool} {o : List Int} (h : vrd s = (o, t)) (ht : t.2 = false) (r : List UInt8) : s.2 = false ∧ vrd (s.1 ++ r, s.2) = (o, t.1 ++ r, t.2) := by
  rw [vrd] at h
  split at h
  · rename_i hb
    simp only [Prod.mk.injEq] at h
    rw [← h.2, hb] at ht; exact absurd ht (by simp)
  · rename_i hb
    have hb' : (rdk 1099511627776 8 s).2.2 = false := by simpa using hb
    have h2 := rdk_more r 8 hb'
    refine ⟨h2.1, ?_⟩
    rw [vrd, h2.2]
    simp only
    rw [if_neg hb, h]
theorem ERead.more {s t : List UInt8 × Bool} {e : Ed} (h : ERead s e t) (ht : t.2 = false) (r : List UInt8) : s.2 = false ∧ ERead (s.1 ++ r, s.2) e (t.1 ++ r, t.2) := by
  obtain ⟨s1, s2, s3, s4, s5, s6, s7, h1, h2, h3, h4, h5, h6, h7, h8⟩ := h.all
  have q8 := rdt_more h8 ht r
  have q7 := rdt_more h7 q8.1 r
  have q6 := rdt_more h6 q7.1 r
  have q5 := rd1_more h5 q6.1 r
  have q4 := rd1_more h4 q5.1 r
  have q3 := vrd_more h3 q4.1 r
  have q2 := rd1_more h2 q3.1 r
  have q1 := rd1_more h1 q2.1 r
  exact ⟨q1.1, ⟨⟨_, _, _, _, _, _, _, q1.2, q2.2, q3.2, q4.2, q5.2, q6.2, q7.2, q8.2⟩⟩⟩
/-- A beginning of one is none. -/
theorem eget_cut {e : Ed} (hl : e.seen.length = 8) (h : e.good = true) {k : Nat} (hk : k < e.put.length) : eget (e.put.take k) = none := by
  have h0 := eget_put hl h
  rw [eget, egot] at h0 ⊢
  by_cases hc : (!(eread (e.put.take k, false)).2.2 && decide ((eread (e.put.take k, false)).2.1.length = 0)) = true ∧ (eread (e.put.take k, false)).1.good = true
  · exfalso
    simp only [Bool.and_eq_true, Bool.not_eq_true', decide_eq_true_eq] at hc
    have hm := (ERead.of (e.put.take k, false)).more hc.1.1 (e.put.drop k)
    have h2 := hm.2.eq
    simp only at h2
    rw [List.take_append_drop] at h2
    split at h0
    · rename_i hq
      rw [h2] at hq
      simp only [Bool.and_eq_true, Bool.not_eq_true', decide_eq_true_eq, List.length_append, List.length_drop] at hq
      omega
    · exact absurd h0 (by simp)
  · rw [if_neg hc]
end Go.Proofs.Ytabgkkdgamacnaa
