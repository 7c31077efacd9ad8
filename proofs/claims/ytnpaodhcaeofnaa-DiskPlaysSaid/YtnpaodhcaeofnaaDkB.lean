/-
  clear of a piece of a row of bytes that an object owns; one bit of a number of 64. No statement is proved here. Conditions: as each says.
-/
import Derived.Test.YtnpaodhcaeofnaaDkF
import Derived.Lib.SliceRun
namespace Go.Proofs.Ytnpaodhcaeofnaa
open Go.RowKit

theorem Try.zeroByte (w : World) : (zeroValue 5).run Try.prog w = .ok (.int .u8 0) w := by
  obtain ⟨i, hi, hz, _⟩ := info_parts Try.infoByte
  simp [zeroValue, typeInfo, hi, hz]

def setsL (xs : List Value) (o : Nat) : List Value → List Value
  | [] => xs
  | v :: r => setsL (xs.set o v) (o + 1) r
theorem setsL_eq : ∀ (vs xs : List Value) (o : Nat), o + vs.length ≤ xs.length → setsL xs o vs = xs.take o ++ vs ++ xs.drop (o + vs.length)
  | [], xs, o, _ => by simp [setsL]
  | v :: r, xs, o, h => by
    simp only [List.length_cons] at h
    unfold setsL
    rw [setsL_eq r (xs.set o v) (o + 1) (by simp; omega)]
    have e1 : (xs.set o v).take (o + 1) = xs.take o ++ [v] := by
      rw [List.take_add_one, List.take_set_of_le (Nat.le_refl _), List.getElem?_set_self (by omega)]; rfl
    have e2 : (xs.set o v).drop (o + 1 + r.length) = xs.drop (o + (v :: r).length) := by
      rw [List.drop_set_of_lt (by omega), List.length_cons, Nat.add_assoc, Nat.add_comm 1]
    rw [e1, e2]
    simp
theorem own_sets {e n c b : Nat} : ∀ (vs : List Value) (o : Nat) (w : World) (xs : List Value), w.ownsRow 0 e 1 (.slice (some ⟨b, 0, none⟩) n c) n xs → (w.setCells b o vs).ownsRow 0 e 1 (.slice (some ⟨b, 0, none⟩) n c) n (setsL xs o vs) ∧ w.grownBy (w.setCells b o vs) (some b)
  | [], o, w, xs, h => ⟨h, ⟨rfl, rfl, rfl, Nat.le_refl _, fun _ _ _ => rfl⟩⟩
  | v :: r, o, w, xs, h => by
    obtain ⟨h1, h2⟩ := h.stored o v
    obtain ⟨h3, h4⟩ := own_sets r (o + 1) (w.setCell ⟨b, o, none⟩ v) _ h1
    exact ⟨h3, But.trans (g := b) h2 h4⟩

/-- clear(b[s:s+d]). -/
theorem clear_own {P : Program} (w : World) {T E ty : TypeId} (hT : P.underlying T = some (.slice E)) (hz : ∀ w, (zeroValue E).run P w = .ok (.int .u8 0) w) {A : Option Addr} {n c s d c2 : Nat} {x : List UInt8} (h : w.ownsRow 0 E 1 (.slice A n c) n (bv x)) (hsd : s + d ≤ n) :
    ∃ w', (Builtin.clear_ #[T] ty #[.slice (if c = s then A else A.map (·.add s)) d c2]).run P w = .ok (.tuple #[]) w' ∧ w'.ownsRow 0 E 1 (.slice A n c) n (bv (x.take s ++ List.replicate d 0 ++ x.drop (s + d))) ∧ w.grownBy w' (A.map (·.block)) := by
  have hs := owns_size h
  rw [bv_len] at hs
  by_cases hd : d = 0
  · subst hd
    refine ⟨w, ?_, by simpa using h, ⟨rfl, rfl, rfl, Nat.le_refl _, fun _ _ _ => rfl⟩⟩
    generalize (if c = s then A else A.map (·.add s)) = A2
    cases A2 <;> simp [Builtin.clear_, run_underlying hT]
  · rcases h.2 with ⟨h2, h3⟩ | ⟨b, cap, cur, h2, hb, hg, h5, h6, h7, h8⟩
    · omega
    · simp only [Value.slice.injEq] at h2
      obtain ⟨rfl, _, rfl⟩ := h2
      have hne : ¬ c = s := by omega
      rw [if_neg hne, Option.map_some, addr_add, Nat.zero_add]
      have hr := Lib.run_clear_slice (P := P) w T E ty (.int .u8 0) hT hz rfl rfl b s d c2 (by omega) (fun j hj => by rw [h.cellAt (s + j) (by omega), bv_at, List.getElem?_eq_getElem (by omega)]; rfl) (fun j _ => h.frozenAt (s + j))
      obtain ⟨h9, h10⟩ := own_sets (List.replicate d (.int .u8 0)) s w _ h
      refine ⟨_, hr, ?_, h10⟩
      rw [setsL_eq _ _ _ (by rw [bv_len]; simp; omega), List.length_replicate, bv_take] at h9
      rw [bv_app, bv_app, ← bv_rep]
      have e : (bv x).drop (s + d) = bv (x.drop (s + d)) := by simp [bv]
      rw [e] at h9
      exact h9

theorem and_one (x : Nat) (hx : x < 18446744073709551616) : bits .and .u64 (x : Int) 1 = ((x % 2 : Nat) : Int) := by
  have h := u64_and_nat x 1 hx (by decide)
  rw [show ((1 : Nat) : Int) = 1 from rfl] at h
  rw [h, show (1 : Nat) = 2 ^ 1 - 1 by decide, Nat.and_two_pow_sub_one_eq_mod]
theorem bit_low {keep k : Nat} (hk : keep < 18446744073709551616) (h : k ≤ 63) : bits .and .u64 ((keep : Int) / 2 ^ k) 1 = if stays keep k then 1 else 0 := by
  have e : ((keep : Int) / 2 ^ k) = ((keep / 2 ^ k : Nat) : Int) := by simp
  rw [e, and_one _ (Nat.lt_of_le_of_lt (Nat.div_le_self _ _) hk), stays, Nat.min_eq_left h]
  rcases Nat.mod_two_eq_zero_or_one (keep / 2 ^ k) with h0 | h0 <;> simp [h0]
theorem bit_high {keep k : Nat} (hk : keep < 18446744073709551616) (h : 63 ≤ k) : bits .and .u64 ((keep : Int) / 9223372036854775808) 1 = if stays keep k then 1 else 0 := by
  have e : ((keep : Int) / 9223372036854775808) = ((keep / 2 ^ 63 : Nat) : Int) := by simp
  rw [e, and_one _ (Nat.lt_of_le_of_lt (Nat.div_le_self _ _) hk), stays, Nat.min_eq_right h]
  rcases Nat.mod_two_eq_zero_or_one (keep / 2 ^ 63) with h0 | h0 <;> simp [h0]
end Go.Proofs.Ytnpaodhcaeofnaa
