/-
  append(own, src...) as one step of a region that draws its order. No statement is proved here. Conditions: the sum of the lengths is at most 2^47.
-/
import Derived.Test.YtomnjmjgmioiaaaSrc
import Derived.Test.YtomnjmjgmioiaaaCut
namespace Go.Proofs.Ytomnjmjgmioiaaa
open Go.RowKit

/-- append(own, src...) as one step of a region that draws its order; src nil or not. -/
theorem step_append_src {P : Program} (w : World) {ops : Array Oper} {o : Oper} {a : Act} {K : Act → World → Prop} {Q : Exit → Act → World → Prop} {E' : Prop} (hgd : o.guard = none) (s x : Operand) (T : TypeId)
    (ho : o.op = .call { callee := .builtin .append, args := #[s, x], argTypes := #[T, T] }) (E : TypeId) (hT : P.underlying T = some (.slice E))
    (hI : (P.info? E).map (fun i => (i.zero, i.size, i.bytes)) = some (some (.int .u8 0), 1, 1)) (base : Nat) (A : Option Addr) (n c : Nat) (l : List UInt8) (hs : a.eval s = .slice A n c) (hr : Res w base E A n c l)
    (D : Option Addr) (m c2 : Nat) (hx : a.eval x = .slice D m c2) (B : Nat) (news : List UInt8) (hb : Byt w B D news) (hl : news.length = m) (hsz : n + m ≤ 140737488355328) (hbase : base ≤ w.heap.size)
    (h : ∀ A' c' w', Res w' base E A' (n + m) c' (l ++ news) → (∀ B w0, B ≤ base → Below B w0 w → Below B w0 w') → K (a.put o.dst (.slice A' (n + m) c')) w') :
    if Region.wanted o (yielded ops a.tmps) = true then Oper.wp P o a w K Q else E' := by
  cases D with
  | some ad => exact step_append_bytes w hgd s x T ho E hT hI base A n c l hs hr ad m c2 hx news hl (cells_at hb) hsz hbase h
  | none =>
    have hn : news = [] := by
      rcases hb with h | ⟨_, _, h, _⟩
      · exact h
      · cases h
    subst hn
    subst hl
    have hw : Region.wanted o (yielded ops a.tmps) = true := by simp [Region.wanted, hgd]
    rw [if_pos hw]
    obtain ⟨i, hi, _⟩ := info_parts hI
    have hrun := append_nothing (P := P) (ty := o.type) (c := c2) w hT hi hr
    unfold Oper.wp
    simp only [execOp, ho, resolve, invoke, builtin, Sem.run_bind, Sem.run_pure, Result.andThen_ok, List.map_toArray, List.map_cons, List.map_nil, hs, hx, List.length_nil, hrun]
    have h2 : K (a.put o.dst (.slice A n c)) w := h A c w (by simpa using hr) (fun _ _ _ hb => hb)
    exact h2
end Go.Proofs.Ytomnjmjgmioiaaa
