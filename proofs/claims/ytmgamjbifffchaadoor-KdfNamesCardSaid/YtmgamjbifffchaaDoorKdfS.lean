/-
  Steps of a region that draws its order: text to bytes, a list of one or two lists, Mac. No statement is proved here. Conditions: those of Mac.
-/
import Derived.Test.YtmgamjbifffchaaDoorKdfB
import Derived.Test.YtmgamjbifffchaaDoorEqB
import Derived.Test.YtmgamjbifffchaaDoorReg
import Derived.Lib.ConvBytes
namespace Go.Proofs.YtmgamjbifffchaaDoor
open Go.RowKit

theorem Byt.next {w w' : World} {A : Option Addr} {l : List UInt8} (h : Byt w w.heap.size A l) (hb : Below w.heap.size w w') : Byt w' w'.heap.size A l := (h.below hb).up hb.size
theorem Prt.next {w w' : World} {A : Option Addr} {ps : List (List UInt8)} (h : Prt w w.heap.size A ps) (hb : Below w.heap.size w w') : Prt w' w'.heap.size A ps := (h.below hb).up hb.size
theorem row_next {w w' : World} {g : Nat} {cs : Array Value} {t : TypeId} (h : Hid (w.heap[g]? = some (.cells cs t (0, 0)))) (hb : Below w.heap.size w w') : Hid (w'.heap[g]? = some (.cells cs t (0, 0))) :=
  (hb.block _ (Array.getElem?_eq_some_iff.1 h.out).1).trans h.out

theorem bytesWorld_below (w : World) (e : TypeId) (s : ByteArray) : Below w.heap.size w (Lib.bytesWorld w e s) :=
  ⟨rfl, rfl, rfl, by rw [Lib.bytesWorld_size]; omega, fun k hk => Lib.bytesWorld_at_old w e s k hk⟩
theorem bytesWorld_byt (w : World) (e : TypeId) (s : ByteArray) : Byt (Lib.bytesWorld w e s) (Lib.bytesWorld w e s).heap.size (some ⟨w.heap.size, 0, none⟩) s.data.toList := by
  refine .inr ⟨w.heap.size, 0, rfl, by rw [Lib.bytesWorld_size]; omega, fun j b hj => ?_⟩
  have hjl : j < s.size := by
    have := (List.getElem?_eq_some_iff.1 hj).1
    rw [Array.length_toList] at this; exact this
  rw [Nat.zero_add, Lib.bytesWorld_cell w e s j hjl]
  simp [hj]

section
variable {P : Program} {ops : Array Oper} {o : Oper} {a : Act} {w : World} {K : Act → World → Prop} {Q : Exit → Act → World → Prop} {E : Prop}
theorem step_conv (hw : Region.wanted o (yielded ops a.tmps) = true) (S T e : TypeId) (x : Operand) (ho : o.op = .convert S T x) (hS : P.underlying S = some .string) (hT : P.underlying T = some (.slice e)) (he : P.underlying e = some (.int .u8))
    (s : ByteArray) (hx : a.eval x = .string s)
    (h : ∀ A c w', Byt w' w'.heap.size A s.data.toList → s.size ≤ c → Below w.heap.size w w' → K (a.put o.dst (.slice A s.size c)) w') : if Region.wanted o (yielded ops a.tmps) = true then Oper.wp P o a w K Q else E := by
  rw [if_pos hw]
  unfold Oper.wp
  simp only [execOp, ho, hx, Sem.run_bind, Lib.run_convert_string_bytes w S T e s hS hT he, Result.andThen_ok]
  exact h _ _ _ (bytesWorld_byt w e s) (grownCap_ge w s.size 0 e) (bytesWorld_below w e s)
end
section
variable {ops : Array Oper} {o : Oper} {a : Act} {w : World} {K : Act → World → Prop} {Q : Exit → Act → World → Prop} {E : Prop}
theorem step_one (hw : Region.wanted o (yielded ops a.tmps) = true) (x : Operand) (ho : o.op = .buildSlice 36 1 #[(0, x)])
    (A : Option Addr) (l : List UInt8) (n c : Nat) (hx : a.eval x = .slice A n c) (ha : Byt w w.heap.size A l) (hl : l.length = n) (hc : n ≤ c)
    (h : ∀ D w', Prt w' w'.heap.size D [l] → Below w.heap.size w w' → K (a.put o.dst (.slice D 1 1)) w') : if Region.wanted o (yielded ops a.tmps) = true then Oper.wp Tryd.prog o a w K Q else E := by
  rw [if_pos hw]
  have h1 := h _ _ (Prt.one (E := 24) ha hl hc) ((Below.refl _ _).alloc (Nat.le_refl _) _)
  unfold Oper.wp
  simp only [execOp, ho, List.map_toArray, List.map_cons, List.map_nil, hx]
  clear h hx
  go_simp
  exact h1
theorem step_two (hw : Region.wanted o (yielded ops a.tmps) = true) (x y : Operand) (ho : o.op = .buildSlice 36 2 #[(0, x), (1, y)])
    (A D : Option Addr) (l m : List UInt8) (n c k d : Nat) (hx : a.eval x = .slice A n c) (hy : a.eval y = .slice D k d) (ha : Byt w w.heap.size A l) (hl : l.length = n) (hc : n ≤ c) (hd : Byt w w.heap.size D m) (hm : m.length = k) (hk : k ≤ d)
    (h : ∀ G w', Prt w' w'.heap.size G [l, m] → Below w.heap.size w w' → K (a.put o.dst (.slice G 2 2)) w') : if Region.wanted o (yielded ops a.tmps) = true then Oper.wp Tryd.prog o a w K Q else E := by
  rw [if_pos hw]
  have h1 := h _ _ (Prt.two (E := 24) ha hl hc hd hm hk) ((Below.refl _ _).alloc (Nat.le_refl _) _)
  unfold Oper.wp
  simp only [execOp, ho, List.map_toArray, List.map_cons, List.map_nil, hx, hy]
  clear h hx hy
  go_simp
  exact h1
theorem step_mac (hw : Region.wanted o (yielded ops a.tmps) = true) (x y : Operand) (ho : o.op = .call { callee := .value (.func 8), args := #[x, y], argTypes := #[24, 36] })
    (A D : Option Addr) (l : List UInt8) (ps : List (List UInt8)) (n c k d : Nat) (hx : a.eval x = .slice A n c) (hy : a.eval y = .slice D k d) (ha : Byt w w.heap.size A l) (hl : l.length = n) (hc : n ≤ c) (hn : n ≤ 1099511627776)
    (hP : Prt w w.heap.size D ps) (hk : ps.length = k) (hk2 : k ≤ 1099511627776) (hps : ps.flatten.length ≤ 1099511627776) (hla : Laid w)
    (h : ∀ w', Below w.heap.size w w' → K (a.put o.dst (.agg (bv (macOf l ps.flatten)).toArray)) w') : if Region.wanted o (yielded ops a.tmps) = true then Oper.wp Tryd.prog o a w K Q else E := by
  rw [if_pos hw]
  have hmac := mac_any w A l n c D ps k d ha hl hc hn hP hk hk2 hps hla
  unfold Oper.wp
  simp only [execOp, ho, resolve, List.map_toArray, List.map_cons, List.map_nil, hx, hy]
  clear hx hy
  go_simp
  refine hmac.mono ?_
  rintro e w' ⟨rfl, hb⟩
  exact h w' hb
end
end Go.Proofs.YtmgamjbifffchaaDoor
