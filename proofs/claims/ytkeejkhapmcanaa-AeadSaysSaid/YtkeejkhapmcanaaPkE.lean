/-
  Words and contracts that other texts share, several in one text. No statement of the seat is proved here. Conditions: as each contract says.
  Numbers of seventeen bytes, as lists: no statement is proved here. Conditions: none.
  Contract of the document's own plus. Conditions: seventeen bytes each.
  Contract of the document's own times. Conditions: seventeen numbers each, below 2^16.
  Contract of the document's own times: the walk. Conditions: seventeen numbers each, below 2^16.
  Contract of the document's own least. Conditions: seventeen bytes.
  Contract of the document's own Clamp. Conditions: sixteen bytes.
  The document's own Tag as numbers: words for its walk. No statement is proved here. Conditions: none.
  Contract of the document's own Tag. Conditions: a key of 32 bytes; fewer than 2^40 bytes.
-/
import Derived.Test.YtkeejkhapmcanaaPkC
import Derived.Test.YtkeejkhapmcanaaPkA
namespace Go.Proofs.Ytkeejkhapmcanaa
open Go.RowKit

def lvN : List Nat → Nat
  | [] => 0
  | a :: r => a + 256 * lvN r
theorem lvN_snoc (l : List Nat) (b : Nat) : lvN (l ++ [b]) = lvN l + b * 256 ^ l.length := by
  induction l with
  | nil => simp [lvN]
  | cons a r ih =>
    simp only [List.cons_append, lvN, ih, List.length_cons, Nat.pow_succ]
    grind
theorem lvN_take (l : List Nat) (k : Nat) (h : k < l.length) : lvN (l.take (k + 1)) = lvN (l.take k) + natAt l k * 256 ^ k := by
  rw [List.take_succ_eq_append_getElem h, lvN_snoc]
  simp [natAt, h, Nat.min_eq_left (Nat.le_of_lt h)]
theorem lvN_set (l : List Nat) (k v : Nat) (h : k < l.length) : lvN (l.set k v) + natAt l k * 256 ^ k = lvN l + v * 256 ^ k := by
  induction l generalizing k with
  | nil => simp at h
  | cons a r ih =>
    cases k with
    | zero => simp [lvN, natAt]; omega
    | succ k =>
      have h1 := ih k (by simpa using h)
      simp only [List.set_cons_succ, lvN, Nat.pow_succ]
      have e : natAt (a :: r) (k + 1) = natAt r k := by simp [natAt]
      rw [e]
      generalize lvN (r.set k v) = x at *
      generalize lvN r = y at *
      generalize 256 ^ k = P at *
      grind
theorem lvN_le (B : Nat) : ∀ l : List Nat, (∀ x ∈ l, x ≤ B) → 255 * lvN l + B ≤ B * 256 ^ l.length
  | [], _ => by simp [lvN]
  | a :: r, h => by
    have h1 := lvN_le B r (fun x hx => h x (by simp [hx]))
    have h2 := h a (by simp)
    simp only [lvN, List.length_cons, Nat.pow_succ]
    rw [← Nat.mul_assoc]
    generalize lvN r = L at *
    generalize B * 256 ^ r.length = Q at *
    omega
theorem lvN_lt (l : List Nat) (h : ∀ x ∈ l, x < 256) : lvN l < 256 ^ l.length := by
  have h1 := lvN_le 255 l (fun x hx => by have := h x hx; omega)
  omega
theorem natAt_set (l : List Nat) (k j v : Nat) (h : k < l.length) : natAt (l.set k v) j = if j = k then v else natAt l j := by
  simp only [natAt, List.getD_eq_getElem?_getD, List.getElem?_set]
  by_cases hj : k = j
  · subst hj; simp [h]
  · simp [hj, Ne.symm hj]
theorem lvN_nat (l : List Nat) (b : Nat) : lvN l = lvN (l.take b) + 256 ^ (min b l.length) * lvN (l.drop b) := by
  induction l generalizing b with
  | nil => simp [lvN]
  | cons a r ih =>
    cases b with
    | zero => simp [lvN]
    | succ b =>
      have := ih b
      simp only [List.take_succ_cons, List.drop_succ_cons, lvN, List.length_cons, Nat.add_min_add_right, Nat.pow_succ]
      grind
theorem up136 (v j : Nat) : v * 256 ^ (j + 17) = 320 * v * 256 ^ j + PP * (64 * v * 256 ^ j) := by
  rw [Nat.pow_add, show (256 : Nat) ^ 17 = 64 * (PP + 5) by decide]
  generalize 256 ^ j = P
  grind

/-- One step of a sum. -/
theorem plus_val (X Y A B : List Nat) (k c v : Nat) (hY : Y.length = 17) (hA : A.length = 17) (hB : B.length = 17) (hk : k < 17) (hv : v = c + (natAt A k + natAt B k))
    (hinv : lvN (X.take k) + c * 256 ^ k = lvN (A.take k) + lvN (B.take k)) (hY1 : Y.take k = X.take k) (q d : Nat) (hY2 : natAt Y k = q) (hq : v = q + 256 * d) :
    lvN (Y.take (k + 1)) + d * 256 ^ (k + 1) = lvN (A.take (k + 1)) + lvN (B.take (k + 1)) := by
  rw [lvN_take Y k (by omega), lvN_take A k (by omega), lvN_take B k (by omega), hY1, hY2, Nat.pow_succ]
  subst hv
  generalize lvN (X.take k) = x at *
  generalize lvN (A.take k) = a at *
  generalize lvN (B.take k) = b at *
  generalize 256 ^ k = P at *
  have e : (c + (natAt A k + natAt B k)) * P = (q + 256 * d) * P := by rw [hq]
  grind
theorem take_set_lt (X : List Nat) (k v : Nat) : (X.set k v).take k = X.take k := by
  rw [List.take_set, List.set_eq_of_length_le (by simp; omega)]
/-- One product more. -/
theorem times_val (p S v j i k : Nat) (hp : p % PP = S % PP) (h : i + k = j ∨ i + k = j + 17) :
    (p + (if i + k = j then v else 320 * v) * 256 ^ j) % PP = (S + v * 256 ^ (i + k)) % PP := by
  rcases h with h | h
  · rw [if_pos h, h, Nat.add_mod, hp, ← Nat.add_mod]
  · rw [if_neg (by omega), h, up136, ← Nat.add_assoc, Nat.add_mul_mod_self_left, Nat.add_mod, hp, ← Nat.add_mod]
/-- A turn of carrying. -/
theorem turn_val (V X c : Nat) (h : X + c * 1361129467683753853853498429727072845824 = V) (hX : X < 1361129467683753853853498429727072845824) :
    c = V / 1361129467683753853853498429727072845824 ∧ (X + 5 * c) % PP = V % PP := by
  constructor
  · omega
  · have e : V = X + 5 * c + PP * c := by rw [← h]; simp only [PP]; omega
    rw [e, Nat.add_mul_mod_self_left]
theorem least_val (V g : Nat) (h : g = V + 5) (hV : V < 1361129467683753853853498429727072845824) :
    (1361129467683753853853498429727072845824 ≤ g → g - 1361129467683753853853498429727072845824 = V % PP) ∧ (g < 1361129467683753853853498429727072845824 → V = V % PP) := by
  simp only [PP]
  constructor <;> intro h1 <;> omega
end Go.Proofs.Ytkeejkhapmcanaa
namespace Go.Proofs.Ytkeejkhapmcanaa
open Go.RowKit

def z17 : List Nat := List.replicate 17 0
theorem zero_w17 (w : World) : (zeroValue 64).run Try.prog w = .ok (.agg (u32v z17).toArray) w := by kernel_rfl
theorem Try.sizeWord : (Try.prog.info? 39).map (·.size) = some 1 := by kernel_rfl
theorem and8w (x : Nat) (hx : x < 4294967296) : bits .and .u32 (x : Int) 255 = ((x % 256 : Nat) : Int) := by
  have h := u32_and_nat x 255 hx (by decide)
  rw [show ((255 : Nat) : Int) = 255 from rfl] at h
  rw [h, show (255 : Nat) = 2 ^ 8 - 1 by decide, Nat.and_two_pow_sub_one_eq_mod]
theorem and8l (x : Nat) (hx : x < 18446744073709551616) : bits .and .u64 (x : Int) 255 = ((x % 256 : Nat) : Int) := by
  have h := u64_and_nat x 255 hx (by decide)
  rw [show ((255 : Nat) : Int) = 255 from rfl] at h
  rw [h, show (255 : Nat) = 2 ^ 8 - 1 by decide, Nat.and_two_pow_sub_one_eq_mod]
theorem and2l (x : Nat) (hx : x < 18446744073709551616) : bits .and .u64 (x : Int) 3 = ((x % 4 : Nat) : Int) := by
  have h := u64_and_nat x 3 hx (by decide)
  rw [show ((3 : Nat) : Int) = 3 from rfl] at h
  rw [h, show (3 : Nat) = 2 ^ 2 - 1 by decide, Nat.and_two_pow_sub_one_eq_mod]
theorem natAt_mem {l : List Nat} {B : Nat} (h : ∀ x ∈ l, x < B) (h0 : 0 < B) (k : Nat) : natAt l k < B := getD_lt h h0 k
theorem natAt_all {l : List Nat} {B : Nat} (h : ∀ k, k < l.length → natAt l k < B) : ∀ x ∈ l, x < B := by
  intro x hx
  obtain ⟨k, hk, rfl⟩ := List.mem_iff_getElem.1 hx
  have := h k hk
  simpa [natAt, hk] using this
/-- What the loop of a sum keeps. -/
structure Psum (A B X : List Nat) (k c : Nat) : Prop where
  len : X.length = 17
  rest : ∀ j, k ≤ j → natAt X j = natAt A j
  low : ∀ j, j < k → j < 16 → natAt X j < 256
  top : k = 17 → natAt X 16 < 512 ∧ lvN X = lvN A + lvN B
  mid : k ≤ 16 → c ≤ 1 ∧ lvN (X.take k) + c * 256 ^ k = lvN (A.take k) + lvN (B.take k)
theorem Psum.step {A B X : List Nat} {k c : Nat} (hA : A.length = 17) (hB : B.length = 17) (la : ∀ x ∈ A, x < 256) (lb : ∀ x ∈ B, x < 256) (h : Psum A B X k c) (hk : k < 16) :
    Psum A B (X.set k ((c + natAt A k + natAt B k) % 256)) (k + 1) ((c + natAt A k + natAt B k) / 256) := by
  have hc := (h.mid (by omega)).1
  have h1 := natAt_mem la (by decide) k
  have h2 := natAt_mem lb (by decide) k
  refine ⟨by rw [List.length_set]; exact h.len, fun j hj => ?_, fun j hj hj2 => ?_, fun e => by omega, fun _ => ⟨by omega, ?_⟩⟩
  · rw [natAt_set _ _ _ _ (by rw [h.len]; omega), if_neg (by omega)]; exact h.rest j (by omega)
  · rw [natAt_set _ _ _ _ (by rw [h.len]; omega)]
    split
    · omega
    · exact h.low j (by omega) hj2
  · exact plus_val X _ A B k c (c + (natAt A k + natAt B k)) (by rw [List.length_set]; exact h.len) hA hB (by omega) rfl (h.mid (by omega)).2 (take_set_lt _ _ _) _ _ (by rw [natAt_set _ _ _ _ (by rw [h.len]; omega), if_pos rfl]) (by rw [← Nat.add_assoc]; omega)
theorem Psum.last {A B X : List Nat} {c : Nat} (hA : A.length = 17) (hB : B.length = 17) (la : ∀ x ∈ A, x < 256) (lb : ∀ x ∈ B, x < 256) (h : Psum A B X 16 c) (d : Nat) :
    Psum A B (X.set 16 (c + natAt A 16 + natAt B 16)) 17 d := by
  have hc := (h.mid (by omega)).1
  have h1 := natAt_mem la (by decide) 16
  have h2 := natAt_mem lb (by decide) 16
  refine ⟨by rw [List.length_set]; exact h.len, fun j hj => ?_, fun j hj hj2 => ?_, fun _ => ⟨?_, ?_⟩, fun e => by omega⟩
  · rw [natAt_set _ _ _ _ (by rw [h.len]; omega), if_neg (by omega)]; exact h.rest j (by omega)
  · rw [natAt_set _ _ _ _ (by rw [h.len]; omega), if_neg (by omega)]; exact h.low j (by omega) hj2
  · rw [natAt_set _ _ _ _ (by rw [h.len]; omega), if_pos rfl]; omega
  · have hv := plus_val X (X.set 16 (c + natAt A 16 + natAt B 16)) A B 16 c (c + (natAt A 16 + natAt B 16)) (by rw [List.length_set]; exact h.len) hA hB (by omega) rfl (h.mid (by omega)).2 (take_set_lt _ _ _) (c + natAt A 16 + natAt B 16) 0 (by rw [natAt_set _ _ _ _ (by rw [h.len]; omega), if_pos rfl]) (by omega)
    rw [Nat.zero_mul, Nat.add_zero, List.take_of_length_le (by rw [List.length_set, h.len]; decide), List.take_of_length_le (by rw [hA]; decide), List.take_of_length_le (by rw [hB]; decide)] at hv
    exact hv

set_option maxRecDepth 100000 in
set_option maxHeartbeats 1000000 in
theorem rplus_any (w : World) (A B : List Nat) (hA : A.length = 17) (hB : B.length = 17) (la : ∀ x ∈ A, x < 256) (lb : ∀ x ∈ B, x < 256) :
    Calls Try.prog 38 #[.agg (u32v A).toArray, .agg (u32v B).toArray] w fun e w' => ∃ X, e = .returned (.agg (u32v X).toArray) ∧ Hid (X.length = 17) ∧ Vlt ((∀ j, j < 16 → natAt X j < 256) ∧ natAt X 16 < 512 ∧ lvN X = lvN A + lvN B) ∧ Below w.heap.size w w' := by
  have hzn := zero_w17
  obtain ⟨W, hW, hgA, hgB, hgZ, hbW, hsW⟩ := three_new w (u32v A).toArray (u32v B).toArray (u32v z17).toArray 64 64 64
  have HW := Lib.hid hW
  have HA := Lib.hid hA
  have HB := Lib.hid hB
  have LA := Lib.hid la
  have LB := Lib.hid lb
  have hs1 : w.heap.size + 2 < W.heap.size := by have := hsW.out; omega
  clear hW hA hB la lb
  go_enter Try.func38, Try.ntmps38
  go_upto_region 1 with fail
  rw [HW.out]
  go_wp2_with fail
  go_loopw [5, 6] (fun cy i wr => ∃ (k c : Nat) (X : List Nat), k ≤ 17 ∧ i = .int .i64 (k : Int) ∧ cy = .int .u32 (c : Int) ∧ Hid (wr.heap[w.heap.size]? = some (.cells (u32v X).toArray 64 (0, 0))) ∧ Vlt (Psum A B X k c) ∧ But w.heap.size W wr) (fun _ i _ => 17 - (intOf i).toNat)
  case atStart => exact ⟨0, 0, A, by omega, rfl, rfl, hgA, vlt ⟨HA.out, fun _ _ => rfl, fun _ h _ => by omega, fun h => by omega, fun _ => ⟨by decide, by simp [lvN]⟩⟩, But.refl _ _⟩
  case round =>
    obtain ⟨k, c, X, hk, rfl, rfl, hg, hps, hbt⟩ := hrel
    by_cases hlt : k < 17
    · have hc1 : c ≤ 1 := (hps.out.mid (by omega)).1
      have HXL := Lib.hid hps.out.len
      have hgB2 : Hid (wr.heap[w.heap.size + 1]? = some (.cells (u32v B).toArray 64 (0, 0))) := (hbt.block _ (by omega) (by intro e; injection e; omega)).trans hgB.out
      have c0 := word_at hg.out k (by rw [HXL.out]; exact hlt)
      have c1 := word_at hgB2.out k (by rw [HB.out]; exact hlt)
      rw [hps.out.rest k (Nat.le_refl _)] at c0
      have lx := natAt_mem LA.out (by decide) k
      have ly := natAt_mem LB.out (by decide) k
      have HSTEP := vlt (show k < 16 → Psum A B (X.set k ((c + natAt A k + natAt B k) % 256)) (k + 1) ((c + natAt A k + natAt B k) / 256) from fun h => Psum.step HA.out HB.out LA.out LB.out hps.out h)
      have HLAST := vlt (show k = 16 → ∀ d, Psum A B (X.set k (c + natAt A k + natAt B k)) (k + 1) d from fun h d => by subst h; exact Psum.last HA.out HB.out LA.out LB.out hps.out d)
      generalize natAt A k = x0 at *
      generalize natAt B k = y0 at *
      clear hps hgB2
      go_wp2_with fail
      go_quiet (fail)
      have hgq : Hid ((wr.drewN nq).heap[w.heap.size]? = some (.cells (u32v X).toArray 64 (0, 0))) := hg.out
      have hbq : But w.heap.size W (wr.drewN nq) := But.below_to hbt (below_drewN (Below.refl wr.heap.size wr) nq) (Nat.le_refl _)
      clear c0 c1 hg hbt
      generalize wr.drewN nq = wq at *
      have f0 : wq.frozen? ⟨w.heap.size, k, none⟩ = false := frozen_of_row _ _ _ _ _ hgq.out
      have cq := word_at hgq.out k (by rw [HXL.out]; exact hlt)
      obtain ⟨v, ev, hv, lv⟩ : ∃ v : Nat, (c : Int) + (x0 : Int) + (y0 : Int) = (v : Int) ∧ v = c + x0 + y0 ∧ v < 512 := ⟨c + x0 + y0, by omega, rfl, by omega⟩
      rw [← hv] at HSTEP HLAST
      clear hv
      have hset1 := world_set_cell hgq.out k (.int .u32 (v : Int))
      rw [u32v_set] at hset1
      by_cases hk16 : k < 16
      · have e1 := and8w v (by omega)
        have hki : (k : Int) < 16 := by omega
        have hset2 := world_set_cell hset1.out k (.int .u32 ((v % 256 : Nat) : Int))
        rw [u32v_set, List.set_set] at hset2
        have hb2 := (hbq.set (i := k) (.int .u32 (v : Int))).set (i := k) (.int .u32 ((v % 256 : Nat) : Int))
        have HP := vlt (HSTEP.out hk16)
        have e3 : (v : Int) / 256 = ((v / 256 : Nat) : Int) := by omega
        clear HSTEP HLAST hset1
        generalize v % 256 = q at *
        generalize v / 256 = d at *
        go_wp2
        exact ⟨⟨k + 1, d, _, by omega, by go_num, rfl, hset2, HP, hb2⟩, by simp [intOf]; omega⟩
      · have hki : ¬ (k : Int) < 16 := by omega
        have hb2 := hbq.set (i := k) (.int .u32 (v : Int))
        have HP := vlt (HLAST.out (by omega) v)
        clear HSTEP HLAST
        go_wp2
        exact ⟨⟨k + 1, v, _, by omega, by go_num, by rw [ev], hset1, HP, hb2⟩, by simp [intOf]; omega⟩
    · have hk17 : k = 17 := by omega
      have hsX := Lib.hid (show (u32v X).toArray.size = 17 by simp [u32v_len, hps.out.len])
      have HXL := Lib.hid hps.out.len
      have HV := vlt (show (∀ j, j < 16 → natAt X j < 256) ∧ natAt X 16 < 512 ∧ lvN X = lvN A + lvN B from ⟨fun j hj => hps.out.low j (by omega) hj, hps.out.top hk17⟩)
      have hz : Hid (wr.heap[w.heap.size + 1 + 1]? = some (.cells (u32v z17).toArray 64 (0, 0))) := (hbt.block _ (by omega) (by intro e; injection e; omega)).trans hgZ.out
      have HZS := Lib.hid (show (u32v z17).toArray.size = 17 from rfl)
      have hbw : Below w.heap.size w wr := But.below hbW hbt (by omega) (by omega)
      clear hps
      go_wp2_with (first
        | (with_reducible refine wpList_load_row rfl 64 (.tmp 2) rfl w.heap.size rfl 64 (u32v X).toArray (0, 0) _ hg.out Try.underlying64 rfl (by rw [hsX.out]; kernel_rfl) ?_)
        | (with_reducible refine wpList_store_row rfl 64 (.tmp 4) (.tmp 31) rfl (w.heap.size + 1 + 1) (u32v X).toArray rfl rfl 64 _ hz.out (by rw [hsX.out]; kernel_rfl) (by rw [hsX.out]; exact HZS.out) (all_oneCell_toArray (u32v_one _)) ?_))
      refine bodyPost_ret (v := .agg (u32v X).toArray) (results_cell_row Try.results38 _ _ (w.heap.size + 1 + 1) 64 _ (0, 0) _ rfl (setRow_heap _ _ _ _ _ _ hz.out) Try.underlying64 rfl (by rw [hsX.out]; kernel_rfl)) rfl ⟨X, rfl, HXL, HV, below_setRow hbw (by omega) _⟩
end Go.Proofs.Ytkeejkhapmcanaa
namespace Go.Proofs.Ytkeejkhapmcanaa
open Go.RowKit

theorem zero_l17 (w : World) : (zeroValue 82).run Try.prog w = .ok (.agg (u64v z17).toArray) w := by kernel_rfl
def STEP : Nat := 1374389534720
/-- What the two loops of products keep. -/
structure Pprod (A B X : List Nat) (i k : Nat) : Prop where
  len : X.length = 17
  bound : ∀ x ∈ X, x ≤ (17 * i + k) * STEP
  val : lvN X % PP = (lvN (A.take i) * lvN B + natAt A i * 256 ^ i * lvN (B.take k)) % PP
theorem prod_lt (x y : Nat) (hx : x < 65536) (hy : y < 65536) : x * y < 4294967296 := Nat.lt_of_le_of_lt (Nat.mul_le_mul (show x ≤ 65535 by omega) (show y ≤ 65535 by omega)) (by decide)
theorem Pprod.step {A B X : List Nat} {i k j : Nat} (hB : B.length = 17) (la : ∀ x ∈ A, x < 65536) (lb : ∀ x ∈ B, x < 65536) (h : Pprod A B X i k) (hk : k < 17) (hj : j < 17) (hijk : i + k = j ∨ i + k = j + 17) :
    Pprod A B (X.set j (natAt X j + (if i + k = j then natAt A i * natAt B k else 320 * (natAt A i * natAt B k)))) i (k + 1) := by
  have h1 := natAt_mem la (by decide) i
  have h2 := natAt_mem lb (by decide) k
  have hp := prod_lt _ _ h1 h2
  refine ⟨by rw [List.length_set]; exact h.len, fun x hx => ?_, ?_⟩
  · have hj2 : natAt X j ≤ (17 * i + k) * STEP := by
      have hm : natAt X j ∈ X := by
        have hjl : j < X.length := by rw [h.len]; exact hj
        simp [natAt, hjl]
      exact h.bound _ hm
    have e1 : (17 * i + (k + 1)) * STEP = (17 * i + k) * STEP + STEP := by rw [← Nat.add_assoc, Nat.add_mul, Nat.one_mul]
    have hp2 : 320 * (natAt A i * natAt B k) ≤ STEP := by
      have e2 : STEP = 320 * 4294967296 := rfl
      rw [e2]
      exact Nat.mul_le_mul_left _ (Nat.le_of_lt hp)
    have hall : ∀ y ∈ X, y ≤ (17 * i + k) * STEP := h.bound
    rw [e1]
    generalize (17 * i + k) * STEP = m at *
    obtain ⟨s, hs⟩ : ∃ s, s = STEP := ⟨_, rfl⟩
    rw [← hs] at hp2 ⊢
    rcases List.mem_or_eq_of_mem_set hx with hx | rfl
    · have := hall x hx; omega
    · split <;> omega
  · have hs := lvN_set X j (natAt X j + (if i + k = j then natAt A i * natAt B k else 320 * (natAt A i * natAt B k))) (by rw [h.len]; exact hj)
    have e : lvN (X.set j (natAt X j + (if i + k = j then natAt A i * natAt B k else 320 * (natAt A i * natAt B k)))) = lvN X + (if i + k = j then natAt A i * natAt B k else 320 * (natAt A i * natAt B k)) * 256 ^ j := by
      rw [Nat.add_mul] at hs; omega
    rw [e, times_val _ _ (natAt A i * natAt B k) j i k h.val hijk, lvN_take B k (by omega)]
    congr 1
    rw [Nat.pow_add]
    generalize lvN (A.take i) * lvN B = q
    generalize lvN (B.take k) = r
    generalize natAt A i = x
    generalize natAt B k = y
    generalize 256 ^ i = P
    generalize 256 ^ k = R
    grind
theorem Pprod.row {A B X : List Nat} {i : Nat} (hA : A.length = 17) (hB : B.length = 17) (h : Pprod A B X i 17) (hi : i < 17) : Pprod A B X (i + 1) 0 := by
  refine ⟨h.len, fun x hx => ?_, ?_⟩
  · have := h.bound x hx
    rw [show 17 * (i + 1) + 0 = 17 * i + 17 by omega]; exact this
  · rw [h.val, List.take_of_length_le (show B.length ≤ 17 by omega), lvN_take A i (by omega)]
    congr 1
    simp only [List.take_zero, lvN, Nat.mul_zero, Nat.add_zero]
    grind
/-- What a turn keeps. -/
structure Pturn (V X : List Nat) (k c : Nat) : Prop where
  len : X.length = 17
  rest : ∀ j, k ≤ j → natAt X j = natAt V j
  low : ∀ j, j < k → natAt X j < 256
  mid : k ≤ 16 → lvN (X.take k) + c * 256 ^ k = lvN (V.take k)
  top : k = 17 → natAt X 16 < 4 ∧ lvN X + c * 1361129467683753853853498429727072845824 = lvN V
  lt : c < 1152921504606846976
theorem Pturn.step {V X : List Nat} {k c : Nat} (hV : V.length = 17) (lv : ∀ x ∈ V, x < 1152921504606846976) (h : Pturn V X k c) (hk : k < 16) :
    Pturn V (X.set k ((c + natAt V k) % 256)) (k + 1) ((c + natAt V k) / 256) := by
  have h1 := natAt_mem lv (by decide) k
  have hc := h.lt
  have hm := h.mid (by omega)
  refine ⟨by rw [List.length_set]; exact h.len, fun j hj => ?_, fun j hj => ?_, fun _ => ?_, fun e => by omega, by omega⟩
  · rw [natAt_set _ _ _ _ (by rw [h.len]; omega), if_neg (by omega)]; exact h.rest j (by omega)
  · rw [natAt_set _ _ _ _ (by rw [h.len]; omega)]
    split
    · omega
    · exact h.low j (by omega)
  · rw [lvN_take _ k (by rw [List.length_set, h.len]; omega), lvN_take V k (by omega), take_set_lt, natAt_set _ _ _ _ (by rw [h.len]; omega), if_pos rfl, Nat.pow_succ, ← hm]
    have e : (c + natAt V k) = (c + natAt V k) % 256 + 256 * ((c + natAt V k) / 256) := by omega
    generalize hq : (c + natAt V k) % 256 = q at *
    generalize hd : (c + natAt V k) / 256 = d at *
    generalize natAt V k = y at *
    generalize lvN (X.take k) = x
    generalize 256 ^ k = P
    have e2 : (c + y) * P = (q + 256 * d) * P := by rw [← e]
    grind
theorem Pturn.last {V X : List Nat} {c : Nat} (hV : V.length = 17) (lv : ∀ x ∈ V, x < 1152921504606846976) (h : Pturn V X 16 c) :
    Pturn V (X.set 16 ((c + natAt V 16) % 4)) 17 ((c + natAt V 16) / 4) := by
  have h1 := natAt_mem lv (by decide) 16
  have hc := h.lt
  have hm := h.mid (by omega)
  refine ⟨by rw [List.length_set]; exact h.len, fun j hj => ?_, fun j hj => ?_, fun e => by omega, fun _ => ⟨?_, ?_⟩, by omega⟩
  · rw [natAt_set _ _ _ _ (by rw [h.len]; omega), if_neg (by omega)]; exact h.rest j (by omega)
  · rw [natAt_set _ _ _ _ (by rw [h.len]; omega)]
    split
    · omega
    · exact h.low j (by omega)
  · rw [natAt_set _ _ _ _ (by rw [h.len]; omega), if_pos rfl]; omega
  · have e1 : lvN (X.set 16 ((c + natAt V 16) % 4)) = lvN (X.take 16) + (c + natAt V 16) % 4 * 256 ^ 16 := by
      have h2 := lvN_take (X.set 16 ((c + natAt V 16) % 4)) 16 (by rw [List.length_set, h.len]; decide)
      rw [List.take_of_length_le (by rw [List.length_set, h.len]; decide), take_set_lt, natAt_set _ _ _ _ (by rw [h.len]; omega), if_pos rfl] at h2
      exact h2
    have e2 : lvN V = lvN (V.take 16) + natAt V 16 * 256 ^ 16 := by
      have h2 := lvN_take V 16 (by omega)
      rwa [List.take_of_length_le (by omega)] at h2
    rw [e1, e2, ← hm, show (256 : Nat) ^ 16 = 340282366920938463463374607431768211456 by decide]
    omega
/-- What the turns keep: how great the number is. -/
structure Pturns (N : Nat) (X : List Nat) (t : Nat) : Prop where
  len : X.length = 17
  bound : ∀ x ∈ X, x < 1152921504606846976
  val : lvN X % PP = N % PP
  zero : t = 0 → lvN X < 1361129467683753853853498429727072845824 * 1125899906842624
  first : t = 1 → lvN X < 1361129467683753853853498429727072845824 + 5629499534213120
  then_ : t = 2 → lvN X < 1361129467683753853853498429727072845824
  end_ : t = 3 → (∀ j, j < 17 → natAt X j < 256) ∧ natAt X 16 < 4 ∧ lvN X < 1361129467683753853853498429727072845824
theorem lv_top (X : List Nat) (h : X.length = 17) (hl : ∀ j, j < 17 → natAt X j < 256) (ht : natAt X 16 < 4) : lvN X < 1361129467683753853853498429727072845824 := by
  have h2 := lvN_take X 16 (by omega)
  rw [List.take_of_length_le (by omega)] at h2
  have h3 : lvN (X.take 16) < 256 ^ (X.take 16).length := lvN_lt _ (by
    intro x hx
    obtain ⟨k, hk, rfl⟩ := List.mem_iff_getElem.1 hx
    have hk16 : k < 16 := by simp at hk; omega
    have := hl k (by omega)
    have hkX : k < X.length := by omega
    simpa [natAt, hkX] using this)
  have e : (X.take 16).length = 16 := by simp; omega
  rw [e, show (256 : Nat) ^ 16 = 340282366920938463463374607431768211456 by decide] at h3
  rw [show (256 : Nat) ^ 16 = 340282366920938463463374607431768211456 by decide] at h2
  omega
theorem Pturns.step {N t c : Nat} {V X : List Nat} (h : Pturns N V t) (ht : t < 3) (hp : Pturn V X 17 c) : Pturns N (X.set 0 (natAt X 0 + 5 * c)) (t + 1) ∧ natAt X 0 < 256 ∧ c < 1125899906842624 := by
  obtain ⟨ht4, hval⟩ := hp.top rfl
  have hX := lv_top X hp.len hp.low ht4
  obtain ⟨hc, hmod⟩ := turn_val _ _ _ hval hX
  have hs := lvN_set X 0 (natAt X 0 + 5 * c) (by rw [hp.len]; decide)
  rw [Nat.pow_zero, Nat.mul_one, Nat.mul_one] at hs
  have e : lvN (X.set 0 (natAt X 0 + 5 * c)) = lvN X + 5 * c := by omega
  have h0 := hp.low 0 (by decide)
  have hcb : c < 1125899906842624 := by
    have h3 : t = 0 ∨ t = 1 ∨ t = 2 := by omega
    rcases h3 with h3 | h3 | h3
    · have := h.zero h3; omega
    · have := h.first h3; omega
    · have := h.then_ h3; omega
  have hval2 : lvN (X.set 0 (natAt X 0 + 5 * c)) % PP = N % PP := by rw [e, hmod, h.val]
  have hb : ∀ x ∈ X.set 0 (natAt X 0 + 5 * c), x < 1152921504606846976 := by
    refine natAt_all (fun k hk => ?_)
    rw [List.length_set, hp.len] at hk
    rw [natAt_set _ _ _ _ (by rw [hp.len]; decide)]
    split
    · omega
    · have := hp.low k hk; omega
  refine ⟨⟨by rw [List.length_set]; exact hp.len, hb, hval2, fun e0 => by omega, fun e1 => ?_, fun e2 => ?_, fun e3 => ?_⟩, h0, hcb⟩
  · rw [e]; omega
  · rw [e]
    have := h.first (by omega)
    omega
  · have h2 := h.then_ (by omega)
    have hc0 : c = 0 := by omega
    subst hc0
    have e4 : ∀ j, natAt (X.set 0 (natAt X 0 + 5 * 0)) j = natAt X j := by
      intro j
      rw [natAt_set _ _ _ _ (by rw [hp.len]; decide)]
      split
      · rename_i hj; rw [hj]; omega
      · rfl
    refine ⟨fun j hj => by rw [e4]; exact hp.low j hj, by rw [e4]; exact ht4, by rw [e]; omega⟩
theorem Pturns.start {A B X : List Nat} (hA : A.length = 17) (h : Pprod A B X 17 0) : Pturns (lvN A * lvN B) X 0 := by
  have hb : ∀ x ∈ X, x ≤ 397198575534080 := fun x hx => by have := h.bound x hx; simpa [STEP] using this
  refine ⟨h.len, fun x hx => by have := hb x hx; omega, ?_, fun _ => ?_, fun e => by omega, fun e => by omega, fun e => by omega⟩
  · rw [h.val, List.take_of_length_le (by omega)]; simp [lvN]
  · have h1 := lvN_le 397198575534080 X hb
    rw [h.len, show (256 : Nat) ^ 17 = 64 * 1361129467683753853853498429727072845824 by decide] at h1
    omega
end Go.Proofs.Ytkeejkhapmcanaa
namespace Go.Proofs.Ytkeejkhapmcanaa
open Go.RowKit

theorem Pprod.at_lt {A B X : List Nat} {i k : Nat} (h : Pprod A B X i k) (hi : i ≤ 17) (hk : k ≤ 17) (j : Nat) : natAt X j < 1125899906842624 := by
  refine natAt_mem (fun x hx => ?_) (by decide) j
  have h1 := h.bound x hx
  have h2 : (17 * i + k) * STEP ≤ 306 * STEP := Nat.mul_le_mul_right _ (by omega)
  have h3 : 306 * STEP < 1125899906842624 := by decide
  omega
theorem pw_ex (x y : Nat) (hx : x < 65536) (hy : y < 65536) : ∃ p : Nat, (x : Int) * (y : Int) = (p : Int) ∧ IntKind.u64.wrap ((x : Int) * (y : Int)) = (p : Int) ∧ Hid (p = x * y) ∧ p < 4294967296 := by
  have h := prod_lt x y hx hy
  exact ⟨x * y, by rw [← Int.natCast_mul], by rw [← Int.natCast_mul, wrap64, Nat.mod_eq_of_lt (by omega)], rfl, h⟩

set_option maxRecDepth 100000 in
set_option maxHeartbeats 4000000 in
theorem rtimes_any (w : World) (A B : List Nat) (hA : A.length = 17) (hB : B.length = 17) (la : ∀ x ∈ A, x < 65536) (lb : ∀ x ∈ B, x < 65536) :
    Calls Try.prog 37 #[.agg (u32v A).toArray, .agg (u32v B).toArray] w fun e w' => ∃ X, e = .returned (.agg (u32v X).toArray) ∧ Hid (X.length = 17) ∧ Vlt ((∀ j, j < 17 → natAt X j < 256) ∧ lvN X < 1361129467683753853853498429727072845824 ∧ lvN X % PP = lvN A * lvN B % PP) ∧ Below w.heap.size w w' := by
  have hzn := zero_w17
  have hzl := zero_l17
  obtain ⟨W, hW, hgA, hgB, hgZ, hbW, hsW⟩ := three_new w (u32v A).toArray (u32v B).toArray (u32v z17).toArray 64 64 64
  have HW := Lib.hid hW
  have HA := Lib.hid hA
  have HB := Lib.hid hB
  have LA := Lib.hid la
  have LB := Lib.hid lb
  have hs1 : w.heap.size + 2 < W.heap.size := by have := hsW.out; omega
  clear hW hA hB la lb
  go_enter Try.func37, Try.ntmps37
  go_upto_region 1 with fail
  rw [HW.out]
  go_upto_region 2 with fail
  have hgP : Hid ((W.alloc (.cells (u64v z17).toArray 82)).heap[W.heap.size]? = some (.cells (u64v z17).toArray 82 (0, 0))) := heap_alloc_new _ _
  have hbV : Below W.heap.size W (W.alloc (.cells (u64v z17).toArray 82)) := (Below.refl _ _).alloc (Nat.le_refl _) _
  have hsV : W.heap.size < (W.alloc (.cells (u64v z17).toArray 82)).heap.size := by simp
  generalize W.alloc (.cells (u64v z17).toArray 82) = V at *
  obtain ⟨g, hg⟩ : ∃ g, g = W.heap.size := ⟨_, rfl⟩
  have hwg : w.heap.size + 2 < g := by omega
  have hgA2 : Hid (V.heap[w.heap.size]? = some (.cells (u32v A).toArray 64 (0, 0))) := (hbV.block _ (by omega)).trans hgA.out
  have hgB2 : Hid (V.heap[w.heap.size + 1]? = some (.cells (u32v B).toArray 64 (0, 0))) := (hbV.block _ (by omega)).trans hgB.out
  have hgZ2 : Hid (V.heap[w.heap.size + 2]? = some (.cells (u32v z17).toArray 64 (0, 0))) := (hbV.block _ (by omega)).trans hgZ.out
  have hbV2 : Below w.heap.size w V := below_next hbW hbW.size hbV
  rw [← hg] at hgP hsV ⊢
  clear hg hgA hgB hgZ hbV hbW hs1 hsW
  go_wp2_with fail
  go_loopw [6] (fun i wr => ∃ (k : Nat) (X : List Nat), k ≤ 17 ∧ i = .int .i64 (k : Int) ∧ Hid (wr.heap[g]? = some (.cells (u64v X).toArray 82 (0, 0))) ∧ Vlt (Pprod A B X k 0) ∧ But g V wr) (fun i _ => 17 - (intOf i).toNat)
  case atStart => exact ⟨0, z17, by omega, rfl, hgP, vlt ⟨rfl, fun x hx => by rw [List.eq_of_mem_replicate hx]; exact Nat.zero_le _, by simp [z17, lvN]⟩, But.refl _ _⟩
  case round =>
    clear hgP
    obtain ⟨i, X0, hi, rfl, hgX, hpp, hbt⟩ := hrel
    by_cases hlt : i < 17
    · generalize hdd : decide ((i : Int) < 17) = dd
      have lx := natAt_mem LA.out (by decide) i
      have hi17 : (i : Int) < 17 := by omega
      go_wp2_with fail
      go_loopw [7] (fun kk wr => ∃ (k : Nat) (X : List Nat), k ≤ 17 ∧ kk = .int .i64 (k : Int) ∧ Hid (wr.heap[g]? = some (.cells (u64v X).toArray 82 (0, 0))) ∧ Vlt (Pprod A B X i k) ∧ But g V wr) (fun i _ => 17 - (intOf i).toNat)
      case atStart => exact ⟨0, X0, by omega, rfl, hgX, hpp, hbt⟩
      case round =>
        clear hgX hpp hbt
        obtain ⟨k, X, hk, rfl, hgX, hpp, hbt⟩ := hrel
        by_cases hlk : k < 17
        · have HXL := Lib.hid hpp.out.len
          have hgAr : Hid (wr.heap[w.heap.size]? = some (.cells (u32v A).toArray 64 (0, 0))) := (hbt.block _ (by omega) (by intro e; injection e; omega)).trans hgA2.out
          have hgBr : Hid (wr.heap[w.heap.size + 1]? = some (.cells (u32v B).toArray 64 (0, 0))) := (hbt.block _ (by omega) (by intro e; injection e; omega)).trans hgB2.out
          have c0 := word_at hgAr.out i (by rw [HA.out]; exact hlt)
          have c1 := word_at hgBr.out k (by rw [HB.out]; exact hlk)
          have ly := natAt_mem LB.out (by decide) k
          have hk17 : (k : Int) < 17 := by omega
          have HSTEP := vlt (show ∀ j, j < 17 → (i + k = j ∨ i + k = j + 17) → Pprod A B (X.set j (natAt X j + (if i + k = j then natAt A i * natAt B k else 320 * (natAt A i * natAt B k)))) i (k + 1) from fun j hj h => Pprod.step HB.out LA.out LB.out hpp.out hlk hj h)
          have HLT := vlt (show ∀ j, natAt X j < 1125899906842624 from Pprod.at_lt hpp.out (by omega) hk)
          obtain ⟨p, ep, ew, hp, lp⟩ := pw_ex (natAt A i) (natAt B k) lx ly
          rw [← hp.out] at HSTEP
          clear hp
          generalize natAt A i = x0 at *
          generalize natAt B k = y0 at *
          have v1 : IntKind.u64.wrap (x0 : Int) = (x0 : Int) := IntWalk.u64_in _ (by omega)
          have v2 : IntKind.u64.wrap (y0 : Int) = (y0 : Int) := IntWalk.u64_in _ (by omega)
          clear hpp hgAr hgBr
          go_wp2_with fail
          go_quiet (fail)
          have hgq : Hid ((wr.drewN nq).heap[g]? = some (.cells (u64v X).toArray 82 (0, 0))) := hgX.out
          have hbq : But g V (wr.drewN nq) := But.below_to hbt (below_drewN (Below.refl wr.heap.size wr) nq) (Nat.le_refl _)
          clear c0 c1 hgX hbt v1 v2
          generalize wr.drewN nq = wq at *
          by_cases hj : i + k < 17
          · obtain ⟨j, ej, hj2, hj3⟩ : ∃ j : Nat, (i : Int) + (k : Int) = (j : Int) ∧ i + k = j ∧ j < 17 := ⟨i + k, by omega, rfl, by omega⟩
            have ge1 : ¬ (17 : Int) ≤ (i : Int) + (k : Int) := by omega
            have cq := long_at hgq.out j (by rw [HXL.out]; exact hj3)
            have f0 : wq.frozen? ⟨g, j, none⟩ = false := frozen_of_row _ _ _ _ _ hgq.out
            have hl := HLT.out j
            have HP := HSTEP.out j hj3 (.inl hj2)
            rw [if_pos hj2] at HP
            have HPP := vlt HP
            have hset := world_set_cell hgq.out j (.int .u64 ((natAt X j + p : Nat) : Int))
            rw [u64v_set] at hset
            have hb2 := hbq.set (i := j) (.int .u64 ((natAt X j + p : Nat) : Int))
            obtain ⟨s, es, hs⟩ : ∃ s : Nat, (natAt X j : Int) + (p : Int) = (s : Int) ∧ s = natAt X j + p := ⟨_, by omega, rfl⟩
            rw [← hs] at hset hb2 HPP
            have lj : (j : Int) < 17 := by omega
            have ge2 : ¬ (17 : Int) ≤ (j : Int) := by omega
            clear HP HSTEP HLT ew ep hs hj2 hj
            generalize natAt X j = xj at *
            go_wp2
            exact ⟨⟨k + 1, _, by omega, by go_num, hset, HPP, hb2⟩, by simp [intOf]; omega⟩
          · obtain ⟨j, ej, hj2, hj3⟩ : ∃ j : Nat, (i : Int) + (k : Int) - 17 = (j : Int) ∧ i + k = j + 17 ∧ j < 17 := ⟨i + k - 17, by omega, by omega, by omega⟩
            have ge1 : (17 : Int) ≤ (i : Int) + (k : Int) := by omega
            have cq := long_at hgq.out j (by rw [HXL.out]; exact hj3)
            have f0 : wq.frozen? ⟨g, j, none⟩ = false := frozen_of_row _ _ _ _ _ hgq.out
            have hl := HLT.out j
            have HP := HSTEP.out j hj3 (.inr hj2)
            rw [if_neg (by omega)] at HP
            have HPP := vlt HP
            have hset := world_set_cell hgq.out j (.int .u64 ((natAt X j + 320 * p : Nat) : Int))
            rw [u64v_set] at hset
            have hb2 := hbq.set (i := j) (.int .u64 ((natAt X j + 320 * p : Nat) : Int))
            obtain ⟨s, es, hs⟩ : ∃ s : Nat, (natAt X j : Int) + 320 * (p : Int) = (s : Int) ∧ s = natAt X j + 320 * p := ⟨_, by omega, rfl⟩
            rw [← hs] at hset hb2 HPP
            have lj : (j : Int) < 17 := by omega
            clear HP HSTEP HLT ew ep hs hj2 hj
            generalize natAt X j = xj at *
            go_wp2
            exact ⟨⟨k + 1, _, by omega, by go_num, hset, HPP, hb2⟩, by simp [intOf]; omega⟩
        · have HP := vlt (show Pprod A B X (i + 1) 0 from Pprod.row HA.out HB.out (by have := hpp.out; rwa [show k = 17 by omega] at this) hlt)
          clear hpp
          go_wp2
          exact ⟨⟨i + 1, _, by omega, by go_num, hgX, HP, hbt⟩, by simp [intOf]; omega⟩
    · have HT0 := vlt (show Pturns (lvN A * lvN B) X0 0 from Pturns.start HA.out (by have := hpp.out; rwa [show i = 17 by omega] at this))
      have hs2 := hbt.size
      have hgZ3 : Hid (wr.heap[w.heap.size + 2]? = some (.cells (u32v z17).toArray 64 (0, 0))) := (hbt.block _ (by omega) (by intro e; injection e; omega)).trans hgZ2.out
      have hbw : Below w.heap.size w wr := But.below hbV2 hbt (by omega) (by omega)
      have hsg : g < wr.heap.size := by omega
      have hi17 : ¬ (i : Int) < 17 := by omega
      clear hpp hgZ2 hbt hbV2 hgA2 hgB2
      go_wp2_with fail
      have hgR : Hid ((wr.alloc (.cells (u32v z17).toArray 64)).heap[wr.heap.size]? = some (.cells (u32v z17).toArray 64 (0, 0))) := heap_alloc_new _ _
      have hb1 : Below wr.heap.size wr (wr.alloc (.cells (u32v z17).toArray 64)) := (Below.refl _ _).alloc (Nat.le_refl _) _
      have hsR : wr.heap.size < (wr.alloc (.cells (u32v z17).toArray 64)).heap.size := by simp
      generalize wr.alloc (.cells (u32v z17).toArray 64) = U at *
      have hgX1 : Hid (U.heap[g]? = some (.cells (u64v X0).toArray 82 (0, 0))) := (hb1.block _ hsg).trans hgX.out
      have hgZ4 : Hid (U.heap[w.heap.size + 2]? = some (.cells (u32v z17).toArray 64 (0, 0))) := (hb1.block _ (by omega)).trans hgZ3.out
      have hbU : Below w.heap.size w U := below_next hbw hbw.size hb1
      obtain ⟨R, hR⟩ : ∃ R, R = wr.heap.size := ⟨_, rfl⟩
      rw [← hR] at hgR hsR hsg ⊢
      clear hR hb1 hgX hgZ3 hbw hs2
      go_loopw [10] (fun tt wr => ∃ (t : Nat) (X : List Nat), t ≤ 3 ∧ tt = .int .i64 (t : Int) ∧ Hid (wr.heap[g]? = some (.cells (u64v X).toArray 82 (0, 0))) ∧ Vlt (Pturns (lvN A * lvN B) X t) ∧ But g U wr) (fun i _ => 3 - (intOf i).toNat)
      case atStart => exact ⟨0, X0, by omega, rfl, hgX1, HT0, But.refl _ _⟩
      case round =>
        clear hgX1 HT0
        obtain ⟨t, Y, ht, rfl, hgY, hpt, hbt⟩ := hrel
        by_cases hlt3 : t < 3
        · have ht3 : (t : Int) < 3 := by omega
          have HYL := Lib.hid hpt.out.len
          have HYB := Lib.hid hpt.out.bound
          go_wp2_with fail
          go_loopw [11, 12] (fun cc kk wr => ∃ (k c : Nat) (X : List Nat), k ≤ 17 ∧ kk = .int .i64 (k : Int) ∧ cc = .int .u64 (c : Int) ∧ c < 1152921504606846976 ∧ Hid (wr.heap[g]? = some (.cells (u64v X).toArray 82 (0, 0))) ∧ Vlt (Pturn Y X k c) ∧ But g U wr) (fun _ i _ => 17 - (intOf i).toNat)
          case atStart => exact ⟨0, 0, Y, by omega, rfl, rfl, by decide, hgY, vlt ⟨HYL.out, fun _ _ => rfl, fun _ h => by omega, fun _ => by simp [lvN], fun h => by omega, by decide⟩, hbt⟩
          case round =>
            clear hgY hbt
            obtain ⟨k, c, X, hk, rfl, rfl, lc, hgX, hp, hbt⟩ := hrel
            have HXL := Lib.hid hp.out.len
            by_cases hlk : k < 17
            · have hk17 : (k : Int) < 17 := by omega
              have c0 := long_at hgX.out k (by rw [HXL.out]; exact hlk)
              have f0 : wr.frozen? ⟨g, k, none⟩ = false := frozen_of_row _ _ _ _ _ hgX.out
              rw [hp.out.rest k (Nat.le_refl _)] at c0
              have ly := natAt_mem HYB.out (by decide) k
              have HS1 := vlt (show k < 16 → Pturn Y (X.set k ((c + natAt Y k) % 256)) (k + 1) ((c + natAt Y k) / 256) from fun h => Pturn.step HYL.out HYB.out hp.out h)
              have HS2 := vlt (show k = 16 → Pturn Y (X.set k ((c + natAt Y k) % 4)) (k + 1) ((c + natAt Y k) / 4) from fun h => by subst h; exact Pturn.last HYL.out HYB.out hp.out)
              generalize natAt Y k = y0 at *
              obtain ⟨v, ev, hv, lv⟩ : ∃ v : Nat, (c : Int) + (y0 : Int) = (v : Int) ∧ v = c + y0 ∧ v < 2305843009213693952 := ⟨_, by omega, rfl, by omega⟩
              rw [← hv] at HS1 HS2
              clear hv hp
              by_cases hk16 : k < 16
              · have hki : (k : Int) < 16 := by omega
                have e1 := and8l v (by omega)
                have e3 : (v : Int) / 256 = ((v / 256 : Nat) : Int) := by omega
                have HP := vlt (HS1.out hk16)
                have ld : v / 256 < 1152921504606846976 := by omega
                have hset := world_set_cell hgX.out k (.int .u64 ((v % 256 : Nat) : Int))
                rw [u64v_set] at hset
                have hb2 := hbt.set (i := k) (.int .u64 ((v % 256 : Nat) : Int))
                clear HS1 HS2
                generalize v % 256 = q at *
                generalize v / 256 = d at *
                go_wp2
                exact ⟨⟨k + 1, d, _, by omega, by go_num, rfl, ld, hset, HP, hb2⟩, by simp [intOf]; omega⟩
              · have hki : ¬ (k : Int) < 16 := by omega
                have e1 := and2l v (by omega)
                have e3 : (v : Int) / 4 = ((v / 4 : Nat) : Int) := by omega
                have HP := vlt (HS2.out (by omega))
                have ld : v / 4 < 1152921504606846976 := by omega
                have hset := world_set_cell hgX.out k (.int .u64 ((v % 4 : Nat) : Int))
                rw [u64v_set] at hset
                have hb2 := hbt.set (i := k) (.int .u64 ((v % 4 : Nat) : Int))
                clear HS1 HS2
                generalize v % 4 = q at *
                generalize v / 4 = d at *
                go_wp2
                exact ⟨⟨k + 1, d, _, by omega, by go_num, rfl, ld, hset, HP, hb2⟩, by simp [intOf]; omega⟩
            · have hki : ¬ (k : Int) < 17 := by omega
              obtain ⟨hs1, hs2, hs3⟩ := Pturns.step hpt.out hlt3 (by have := hp.out; rwa [show k = 17 by omega] at this)
              have HP := vlt hs1
              have c0 := long_at hgX.out 0 (by rw [HXL.out]; decide)
              have f0 : wr.frozen? ⟨g, 0, none⟩ = false := frozen_of_row _ _ _ _ _ hgX.out
              have hset := world_set_cell hgX.out 0 (.int .u64 ((natAt X 0 + 5 * c : Nat) : Int))
              rw [u64v_set] at hset
              have hb2 := hbt.set (i := 0) (.int .u64 ((natAt X 0 + 5 * c : Nat) : Int))
              obtain ⟨s, es, hs⟩ : ∃ s : Nat, (natAt X 0 : Int) + 5 * (c : Int) = (s : Int) ∧ s = natAt X 0 + 5 * c := ⟨_, by omega, rfl⟩
              rw [← hs] at hset hb2 HP
              clear hs1 hp hpt hs
              generalize natAt X 0 = x0 at *
              go_wp2
              exact ⟨⟨t + 1, _, by omega, by go_num, hset, HP, hb2⟩, by simp [intOf]; omega⟩
        · have ht3 : ¬ (t : Int) < 3 := by omega
          obtain ⟨hd, _, hV⟩ := hpt.out.end_ (by omega)
          have HD := vlt (show ∀ j, j < 17 → natAt Y j < 256 from hd)
          have HV := vlt (show lvN Y < 1361129467683753853853498429727072845824 ∧ lvN Y % PP = lvN A * lvN B % PP from ⟨hV, hpt.out.val⟩)
          have HYL := Lib.hid hpt.out.len
          have hgR2 : Hid (wr.heap[R]? = some (.cells (u32v z17).toArray 64 (0, 0))) := (hbt.block _ hsR (by intro e; injection e; omega)).trans hgR.out
          have hgZ5 : Hid (wr.heap[w.heap.size + 2]? = some (.cells (u32v z17).toArray 64 (0, 0))) := (hbt.block _ (by omega) (by intro e; injection e; omega)).trans hgZ4.out
          have hbw : Below w.heap.size w wr := But.below hbU hbt (by omega) hbU.size
          have hsw : R < wr.heap.size := by have := hbt.size; omega
          clear hd hV hpt hgR hgZ4 hbU hbt
          obtain ⟨U2, hU2⟩ : ∃ U2, U2 = wr := ⟨_, rfl⟩
          subst hU2
          go_wp2_with fail
          go_loopw [13] (fun kk ws => ∃ (k : Nat), k ≤ 17 ∧ kk = .int .i64 (k : Int) ∧ Hid (ws.heap[R]? = some (.cells (u32v (uptoW 17 (Y.take k))).toArray 64 (0, 0))) ∧ But R U2 ws) (fun i _ => 17 - (intOf i).toNat)
          case atStart => exact ⟨0, by omega, rfl, hgR2, But.refl _ _⟩
          case round =>
            clear hgR2
            obtain ⟨k, hk, rfl, hgr, hbt⟩ := hrel
            by_cases hlk : k < 17
            · have hk17 : (k : Int) < 17 := by omega
              have hgYr : Hid (wr.heap[g]? = some (.cells (u64v Y).toArray 82 (0, 0))) := (hbt.block _ (by omega) (by intro e; injection e; omega)).trans hgY.out
              have c0 := long_at hgYr.out k (by rw [HYL.out]; exact hlk)
              have hl : (Y.take k).length = k := by rw [List.length_take, HYL.out]; omega
              have c1 := word_at hgr.out k (by rw [uptoW_len 17 _ (by rw [hl]; omega)]; exact hlk)
              have f0 : wr.frozen? ⟨R, k, none⟩ = false := frozen_of_row _ _ _ _ _ hgr.out
              have lx := HD.out k hlk
              have hset := world_set_cell hgr.out k (.int .u32 ((natAt Y k : Nat) : Int))
              have e1 : (uptoW 17 (Y.take k)).set k (natAt Y k) = uptoW 17 (Y.take (k + 1)) := by
                have h1 := uptoW_set 17 (Y.take k) (natAt Y k) (by rw [hl]; exact hlk)
                rw [hl] at h1
                rw [h1, List.take_succ_eq_append_getElem (by rw [HYL.out]; exact hlk)]
                congr 3
                simp [natAt, List.getElem?_eq_getElem (show k < Y.length by rw [HYL.out]; exact hlk)]
              rw [u32v_set, e1] at hset
              have hb2 := hbt.set (i := k) (.int .u32 ((natAt Y k : Nat) : Int))
              clear e1 hl
              generalize natAt Y k = x at *
              generalize natAt (uptoW 17 (Y.take k)) k = z at *
              go_wp2
              exact ⟨⟨k + 1, by omega, by go_num, hset, hb2⟩, by simp [intOf]; omega⟩
            · have hki : ¬ (k : Int) < 17 := by omega
              have hgf : Hid (wr.heap[R]? = some (.cells (u32v Y).toArray 64 (0, 0))) := by
                have h1 := hgr.out
                rw [List.take_of_length_le (by rw [HYL.out]; omega), uptoW_all 17 Y HYL.out] at h1
                exact h1
              have hsY := Lib.hid (show (u32v Y).toArray.size = 17 by simp [u32v_len, HYL.out])
              have HZS := Lib.hid (show (u32v z17).toArray.size = 17 from rfl)
              have hgZ6 : Hid (wr.heap[w.heap.size + 1 + 1]? = some (.cells (u32v z17).toArray 64 (0, 0))) := (hbt.block _ (by omega) (by intro e; injection e; omega)).trans hgZ5.out
              have hbw2 : Below w.heap.size w wr := But.below hbw hbt (by omega) hbw.size
              have HRES := vlt (show (∀ j, j < 17 → natAt Y j < 256) ∧ lvN Y < 1361129467683753853853498429727072845824 ∧ lvN Y % PP = lvN A * lvN B % PP from ⟨HD.out, HV.out⟩)
              clear hgr
              go_wp2_with (first
                | (with_reducible refine wpList_load_row rfl 64 (.tmp 9) rfl R rfl 64 (u32v Y).toArray (0, 0) _ hgf.out Try.underlying64 rfl (by rw [hsY.out]; kernel_rfl) ?_)
                | (with_reducible refine wpList_store_row rfl 64 (.tmp 4) (.tmp 103) rfl (w.heap.size + 1 + 1) (u32v Y).toArray rfl rfl 64 _ hgZ6.out (by rw [hsY.out]; kernel_rfl) (by rw [hsY.out]; exact HZS.out) (all_oneCell_toArray (u32v_one _)) ?_))
              refine bodyPost_ret (v := .agg (u32v Y).toArray) (results_cell_row Try.results37 _ _ (w.heap.size + 1 + 1) 64 _ (0, 0) _ rfl (setRow_heap _ _ _ _ _ _ hgZ6.out) Try.underlying64 rfl (by rw [hsY.out]; kernel_rfl)) rfl ⟨Y, rfl, HYL, HRES, below_setRow hbw2 (by omega) _⟩
end Go.Proofs.Ytkeejkhapmcanaa
namespace Go.Proofs.Ytkeejkhapmcanaa
open Go.RowKit

def one17 : List Nat := 1 :: List.replicate 16 0
def five17 : List Nat := 5 :: List.replicate 16 0
theorem built_one : Try.prog.built 64 [(0, .int .u32 1)] = some (u32v one17).toArray := by kernel_rfl
theorem built_five : Try.prog.built 64 [(0, .int .u32 5)] = some (u32v five17).toArray := by kernel_rfl
theorem and2w (x : Nat) (hx : x < 4294967296) : bits .and .u32 (x : Int) 3 = ((x % 4 : Nat) : Int) := by
  have h := u32_and_nat x 3 hx (by decide)
  rw [show ((3 : Nat) : Int) = 3 from rfl] at h
  rw [h, show (3 : Nat) = 2 ^ 2 - 1 by decide, Nat.and_two_pow_sub_one_eq_mod]
theorem lv_split16 (X : List Nat) (h : X.length = 17) (hl : ∀ j, j < 16 → natAt X j < 256) : ∃ L, lvN X = L + natAt X 16 * 340282366920938463463374607431768211456 ∧ L < 340282366920938463463374607431768211456 ∧ ∀ v, lvN (X.set 16 v) = L + v * 340282366920938463463374607431768211456 := by
  have h2 := lvN_take X 16 (by omega)
  rw [List.take_of_length_le (by omega)] at h2
  have h3 : lvN (X.take 16) < 256 ^ (X.take 16).length := lvN_lt _ (by
    intro x hx
    obtain ⟨k, hk, rfl⟩ := List.mem_iff_getElem.1 hx
    have hk16 : k < 16 := by simp at hk; omega
    have := hl k (by omega)
    have hkX : k < X.length := by omega
    simpa [natAt, hkX] using this)
  have e : (X.take 16).length = 16 := by simp; omega
  rw [e, show (256 : Nat) ^ 16 = 340282366920938463463374607431768211456 by decide] at h3
  rw [show (256 : Nat) ^ 16 = 340282366920938463463374607431768211456 by decide] at h2
  refine ⟨_, h2, h3, fun v => ?_⟩
  have h4 := lvN_set X 16 v (by omega)
  rw [show (256 : Nat) ^ 16 = 340282366920938463463374607431768211456 by decide] at h4
  omega

set_option maxRecDepth 100000 in
set_option maxHeartbeats 2000000 in
theorem rleast_any (w : World) (H : List Nat) (hH : H.length = 17) (la : ∀ x ∈ H, x < 256) :
    Calls Try.prog 39 #[.agg (u32v H).toArray] w fun e w' => ∃ X, e = .returned (.agg (u32v X).toArray) ∧ Hid (X.length = 17) ∧ Vlt ((∀ j, j < 17 → natAt X j < 256) ∧ lvN X = lvN H % PP) ∧ Below w.heap.size w w' := by
  have hzn := zero_w17
  obtain ⟨W, hW, hgH, hgZ, hbW, hsW⟩ := pair_new w (u32v H).toArray (u32v z17).toArray 64 64
  have HW := Lib.hid hW
  have HH := Lib.hid hH
  have LH := Lib.hid la
  have HHS := Lib.hid (show (u32v H).toArray.size = 17 by simp [u32v_len, hH])
  have HZS := Lib.hid (show (u32v z17).toArray.size = 17 from rfl)
  have HOS := Lib.hid (show (u32v one17).toArray.size = 17 from rfl)
  have HFS := Lib.hid (show (u32v five17).toArray.size = 17 from rfl)
  have hs1 : w.heap.size + 1 < W.heap.size := by have := hsW.out; omega
  clear hW hH la
  go_enter Try.func39, Try.ntmps39
  go_upto_region 1 with fail
  rw [HW.out]
  go_upto_region 2 with (first
    | (with_reducible refine wpList_build_to rfl 64 _ rfl [(0, .int .u32 1)] (by kernel_rfl) _ built_one ?_)
    | ((with_reducible refine wpList_store_row rfl 64 (.tmp 3) (.tmp 6) rfl W.heap.size (u32v one17).toArray rfl rfl 64 _ (heap_alloc_new _ _) (by rw [HOS.out]; kernel_rfl) (by rw [HOS.out]; exact HZS.out) (all_oneCell_toArray (u32v_one _)) ?_); rw [World.setRow_alloc_new]))
  have g1 := Lib.hid (heap_alloc_new W (.cells (u32v one17).toArray 64))
  have hb1 : Below W.heap.size W (W.alloc (.cells (u32v one17).toArray 64)) := (Below.refl _ _).alloc (Nat.le_refl _) _
  generalize W.alloc (.cells (u32v one17).toArray 64) = w1 at *
  have hgH1 : Hid (w1.heap[w.heap.size]? = some (.cells (u32v H).toArray 64 (0, 0))) := (hb1.block _ (by omega)).trans hgH.out
  have hgZ1 : Hid (w1.heap[w.heap.size + 1]? = some (.cells (u32v z17).toArray 64 (0, 0))) := (hb1.block _ hs1).trans hgZ.out
  have hbw1 := below_next hbW hbW.size hb1
  have hsz1 : w.heap.size + 1 < w1.heap.size := by have := hb1.size; omega
  clear hgH hgZ hb1 hbW
  have hcall := rtimes_any w1 H one17 HH.out rfl (fun x hx => by have := LH.out x hx; omega) (by decide)
  go_wp2_with (first
    | (with_reducible refine wpList_load_row rfl 64 (.tmp 1) rfl w.heap.size rfl 64 (u32v H).toArray (0, 0) _ hgH1.out Try.underlying64 rfl (by rw [HHS.out]; kernel_rfl) ?_)
    | (with_reducible refine wpList_load_row rfl 64 (.tmp 3) rfl W.heap.size rfl 64 (u32v one17).toArray (0, 0) _ g1.out Try.underlying64 rfl (by rw [HOS.out]; kernel_rfl) ?_))
  refine hcall.mono ?_
  rintro e w2 ⟨T, rfl, hTl, hT, hb2⟩
  have hgH2 : Hid (w2.heap[w.heap.size]? = some (.cells (u32v H).toArray 64 (0, 0))) := (hb2.block _ (by omega)).trans hgH1.out
  have hgZ2 : Hid (w2.heap[w.heap.size + 1]? = some (.cells (u32v z17).toArray 64 (0, 0))) := (hb2.block _ hsz1).trans hgZ1.out
  have hbw2 := below_next hbw1 hbw1.size hb2
  have hsz2 : w.heap.size + 1 < w2.heap.size := by have := hb2.size; omega
  have HTS := Lib.hid (show (u32v T).toArray.size = 17 by simp [u32v_len, hTl.out])
  clear hcall hgH1 hgZ1 hb2 g1 hbw1
  go_upto_region 3 with (with_reducible refine wpList_store_row rfl 64 (.tmp 1) (.tmp 9) rfl w.heap.size (u32v T).toArray rfl rfl 64 _ hgH2.out (by rw [HTS.out]; kernel_rfl) (by rw [HTS.out]; exact HHS.out) (all_oneCell_toArray (u32v_one _)) ?_)
  have hgT3 : Hid ((w2.setRow w.heap.size (u32v T).toArray).heap[w.heap.size]? = some (.cells (u32v T).toArray 64 (0, 0))) := setRow_heap _ _ _ _ _ _ hgH2.out
  have hgZ3 : Hid ((w2.setRow w.heap.size (u32v T).toArray).heap[w.heap.size + 1]? = some (.cells (u32v z17).toArray 64 (0, 0))) := (setRow_other _ _ _ _ (by omega)).trans hgZ2.out
  have hbw3 : Below w.heap.size w (w2.setRow w.heap.size (u32v T).toArray) := below_setRow hbw2 (Nat.le_refl _) _
  have hsz3 : w.heap.size + 1 < (w2.setRow w.heap.size (u32v T).toArray).heap.size := by simp [World.setRow]; omega
  generalize w2.setRow w.heap.size (u32v T).toArray = w3 at *
  clear hgH2 hgZ2 hbw2
  go_upto_region 4 with (first
    | (with_reducible refine wpList_build_to rfl 64 _ rfl [(0, .int .u32 5)] (by kernel_rfl) _ built_five ?_)
    | ((with_reducible refine wpList_store_row rfl 64 (.tmp 4) (.tmp 10) rfl w3.heap.size (u32v five17).toArray rfl rfl 64 _ (heap_alloc_new _ _) (by rw [HFS.out]; kernel_rfl) (by rw [HFS.out]; exact HZS.out) (all_oneCell_toArray (u32v_one _)) ?_); rw [World.setRow_alloc_new]))
  have g4 := Lib.hid (heap_alloc_new w3 (.cells (u32v five17).toArray 64))
  have hb4 : Below w3.heap.size w3 (w3.alloc (.cells (u32v five17).toArray 64)) := (Below.refl _ _).alloc (Nat.le_refl _) _
  generalize w3.alloc (.cells (u32v five17).toArray 64) = w4 at *
  have hgT4 : Hid (w4.heap[w.heap.size]? = some (.cells (u32v T).toArray 64 (0, 0))) := (hb4.block _ (by omega)).trans hgT3.out
  have hgZ4 : Hid (w4.heap[w.heap.size + 1]? = some (.cells (u32v z17).toArray 64 (0, 0))) := (hb4.block _ hsz3).trans hgZ3.out
  have hbw4 := below_next hbw3 hbw3.size hb4
  have hsz4 : w.heap.size + 1 < w4.heap.size := by have := hb4.size; omega
  clear hgT3 hgZ3 hb4 hbw3
  have hcall := rplus_any w4 T five17 hTl.out rfl (natAt_all (fun k hk => hT.out.1 k (by rw [hTl.out] at hk; exact hk))) (by decide)
  go_wp2_with (first
    | (with_reducible refine wpList_load_row rfl 64 (.tmp 1) rfl w.heap.size rfl 64 (u32v T).toArray (0, 0) _ hgT4.out Try.underlying64 rfl (by rw [HTS.out]; kernel_rfl) ?_)
    | (with_reducible refine wpList_load_row rfl 64 (.tmp 4) rfl w3.heap.size rfl 64 (u32v five17).toArray (0, 0) _ g4.out Try.underlying64 rfl (by rw [HFS.out]; kernel_rfl) ?_))
  refine hcall.mono ?_
  rintro e w5 ⟨G, rfl, hGl, hG, hb5⟩
  have hgT5 : Hid (w5.heap[w.heap.size]? = some (.cells (u32v T).toArray 64 (0, 0))) := (hb5.block _ (by omega)).trans hgT4.out
  have hgZ5 : Hid (w5.heap[w.heap.size + 1]? = some (.cells (u32v z17).toArray 64 (0, 0))) := (hb5.block _ hsz4).trans hgZ4.out
  have hbw5 := below_next hbw4 hbw4.size hb5
  have hsz5 : w.heap.size + 1 < w5.heap.size := by have := hb5.size; omega
  have HGS := Lib.hid (show (u32v G).toArray.size = 17 by simp [u32v_len, hGl.out])
  clear hcall hgT4 hgZ4 hb5 g4 hbw4
  go_upto_region 5 with ((with_reducible refine wpList_store_row rfl 64 (.tmp 5) (.tmp 13) rfl w5.heap.size (u32v G).toArray rfl rfl 64 _ (heap_alloc_new _ _) (by rw [HGS.out]; kernel_rfl) (by rw [HGS.out]; exact HZS.out) (all_oneCell_toArray (u32v_one _)) ?_); rw [World.setRow_alloc_new])
  have g6 := Lib.hid (heap_alloc_new w5 (.cells (u32v G).toArray 64))
  have hb6 : Below w5.heap.size w5 (w5.alloc (.cells (u32v G).toArray 64)) := (Below.refl _ _).alloc (Nat.le_refl _) _
  generalize w5.alloc (.cells (u32v G).toArray 64) = w6 at *
  have hgT6 : Hid (w6.heap[w.heap.size]? = some (.cells (u32v T).toArray 64 (0, 0))) := (hb6.block _ (by omega)).trans hgT5.out
  have hgZ6 : Hid (w6.heap[w.heap.size + 1]? = some (.cells (u32v z17).toArray 64 (0, 0))) := (hb6.block _ hsz5).trans hgZ5.out
  have hbw6 := below_next hbw5 hbw5.size hb6
  obtain ⟨g, hg⟩ : ∃ g, g = w5.heap.size := ⟨_, rfl⟩
  have hwg : w.heap.size + 1 < g := by omega
  rw [← hg] at g6 ⊢
  clear hg hgT5 hgZ5 hb6 hbw5
  have c16 := word_at g6.out 16 (by rw [hGl.out]; decide)
  have f16 : w6.frozen? ⟨g, 16, none⟩ = false := frozen_of_row _ _ _ _ _ g6.out
  obtain ⟨L, hL1, hL2, hL3⟩ := lv_split16 G hGl.out hG.out.1
  have hGv := hG.out.2.2
  have hTlt := hT.out.2.1
  have hTm : lvN T % PP = lvN H % PP := by have := hT.out.2.2; rwa [show lvN one17 = 1 by decide, Nat.mul_one] at this
  have hfive : lvN five17 = 5 := by decide
  have hlv := least_val (lvN T) (lvN G) (by rw [hGv, hfive]) hTlt
  have lx := hG.out.2.1
  obtain ⟨x, hx⟩ : ∃ x, x = natAt G 16 := ⟨_, rfl⟩
  rw [← hx] at c16 hL1 lx
  by_cases h4 : 4 ≤ x
  · have h4i : (4 : Int) ≤ (x : Int) := by omega
    have e1 := and2w x (by omega)
    have hx4 : x = 4 := by omega
    have hxm : x % 4 = 0 := by omega
    have hset := world_set_cell g6.out 16 (.int .u32 ((x % 4 : Nat) : Int))
    rw [u32v_set] at hset
    have hb7 : Below w.heap.size w (w6.setCell ⟨g, 16, none⟩ (.int .u32 ((x % 4 : Nat) : Int))) := hbw6.setCell (show w.heap.size ≤ g by omega) _
    have hgZ7 : Hid ((w6.setCell ⟨g, 16, none⟩ (.int .u32 ((x % 4 : Nat) : Int))).heap[w.heap.size + 1]? = some (.cells (u32v z17).toArray 64 (0, 0))) := (heap_setCell_other w6 _ _ _ (by show w.heap.size + 1 ≠ g; omega)).trans hgZ6.out
    obtain ⟨X, hX⟩ : ∃ X, X = G.set 16 (x % 4) := ⟨_, rfl⟩
    rw [← hX] at hset
    have HXL := Lib.hid (show X.length = 17 by rw [hX, List.length_set]; exact hGl.out)
    have HXS := Lib.hid (show (u32v X).toArray.size = 17 by simp [u32v_len, HXL.out])
    have HRES := vlt (show (∀ j, j < 17 → natAt X j < 256) ∧ lvN X = lvN H % PP by
      refine ⟨fun j hj => ?_, ?_⟩
      · rw [hX, natAt_set _ _ _ _ (by rw [hGl.out]; decide)]
        split
        · omega
        · exact hG.out.1 j (by omega)
      · rw [hX, hL3, hxm, ← hTm, ← hlv.1 (by omega)]; omega)
    clear hlv hL1 hL2 hL3 hGv hTlt hTm hX hxm hx hx4 hT hG
    generalize x % 4 = q at *
    go_wp2_with (first
      | (with_reducible refine wpList_load_row rfl 64 (.tmp 5) rfl g rfl 64 (u32v X).toArray (0, 0) _ hset.out Try.underlying64 rfl (by rw [HXS.out]; kernel_rfl) ?_)
      | (with_reducible refine wpList_store_row rfl 64 (.tmp 2) (.tmp 21) rfl (w.heap.size + 1) (u32v X).toArray rfl rfl 64 _ hgZ7.out (by rw [HXS.out]; kernel_rfl) (by rw [HXS.out]; exact HZS.out) (all_oneCell_toArray (u32v_one _)) ?_))
    refine bodyPost_ret (v := .agg (u32v X).toArray) (results_cell_row Try.results39 _ _ (w.heap.size + 1) 64 _ (0, 0) _ rfl (setRow_heap _ _ _ _ _ _ hgZ7.out) Try.underlying64 rfl (by rw [HXS.out]; kernel_rfl)) rfl ⟨X, rfl, HXL, HRES, below_setRow hb7 (by omega) _⟩
  · have h4i : ¬ (4 : Int) ≤ (x : Int) := by omega
    have HRES := vlt (show (∀ j, j < 17 → natAt T j < 256) ∧ lvN T = lvN H % PP from ⟨hT.out.1, by rw [← hTm]; exact hlv.2 (by omega)⟩)
    clear hlv hL1 hL2 hL3 hGv hTlt hTm hx hT hG
    go_wp2_with (first
      | (with_reducible refine wpList_load_row rfl 64 (.tmp 1) rfl w.heap.size rfl 64 (u32v T).toArray (0, 0) _ hgT6.out Try.underlying64 rfl (by rw [HTS.out]; kernel_rfl) ?_)
      | (with_reducible refine wpList_store_row rfl 64 (.tmp 2) (.tmp 22) rfl (w.heap.size + 1) (u32v T).toArray rfl rfl 64 _ hgZ6.out (by rw [HTS.out]; kernel_rfl) (by rw [HTS.out]; exact HZS.out) (all_oneCell_toArray (u32v_one _)) ?_))
    refine bodyPost_ret (v := .agg (u32v T).toArray) (results_cell_row Try.results39 _ _ (w.heap.size + 1) 64 _ (0, 0) _ rfl (setRow_heap _ _ _ _ _ _ hgZ6.out) Try.underlying64 rfl (by rw [HTS.out]; kernel_rfl)) rfl ⟨T, rfl, hTl, HRES, below_setRow hbw6 (by omega) _⟩
end Go.Proofs.Ytkeejkhapmcanaa
namespace Go.Proofs.Ytkeejkhapmcanaa
open Go.RowKit

set_option maxRecDepth 100000 in
set_option maxHeartbeats 1000000 in
theorem refClamp_any (w : World) (l : List UInt8) (hl : l.length = 16) :
    Calls Try.prog 36 #[.agg (bv l).toArray] w fun e w' => e = .returned (.agg (bv (clampOf l)).toArray) ∧ Below w.heap.size w w' := by
  have hz16 := zero_b16
  obtain ⟨W, hW, hgA, hgZ, hbW, hsW⟩ := pair_new w (bv l).toArray (bv z16).toArray 45 45
  have HW := Lib.hid hW
  have HL := Lib.hid hl
  have hs1 : w.heap.size + 1 < W.heap.size := by have := hsW.out; omega
  clear hW hl
  go_enter Try.func36, Try.ntmps36
  go_upto_region 1 with fail
  rw [HW.out]
  go_wp2_with fail
  go_loopw [3] (fun i wr => ∃ k : Nat, k ≤ 4 ∧ i = .int .i64 (3 + 4 * (k : Int)) ∧ Hid (wr.heap[w.heap.size]? = some (.cells (bv (cl1 l k)).toArray 45 (0, 0))) ∧ But w.heap.size W wr) (fun i _ => 19 - (intOf i).toNat)
  case atStart => exact ⟨0, by omega, rfl, hgA, But.refl _ _⟩
  case round =>
    obtain ⟨k, hk, rfl, hg, hbt⟩ := hrel
    by_cases hlt : k < 4
    · obtain ⟨X, hX⟩ : ∃ X, X = cl1 l k := ⟨_, rfl⟩
      rw [← hX] at hg
      have HXL := Lib.hid (show X.length = 16 by rw [hX, cl1_len]; exact HL.out)
      have HX1 := vlt (show cl1 l (k + 1) = X.set (3 + 4 * k) (byteAt X (3 + 4 * k) &&& 15) by rw [hX, cl1])
      clear hX
      have hi16 : 3 + 4 * k < 16 := by omega
      have c0 := byteAt_cell hg.out (3 + 4 * k) (by rw [HXL.out]; exact hi16)
      have f0 : wr.frozen? ⟨w.heap.size, 3 + 4 * k, none⟩ = false := frozen_of_row _ _ _ _ _ hg.out
      generalize byteAt X (3 + 4 * k) = b at *
      have e1 := and15 b
      have hset : Hid ((wr.setCell ⟨w.heap.size, 3 + 4 * k, none⟩ (.int .u8 (((b &&& 15).toNat : Nat) : Int))).heap[w.heap.size]? = some (.cells (bv (cl1 l (k + 1))).toArray 45 (0, 0))) := by
        have h1 := (world_set_cell hg.out (3 + 4 * k) (.int .u8 (((b &&& 15).toNat : Nat) : Int))).out
        rw [bv_set, ← HX1.out] at h1
        exact h1
      have hb2 := hbt.set (i := 3 + 4 * k) (.int .u8 (((b &&& 15).toNat : Nat) : Int))
      have hb256 := UInt8.toNat_lt b
      generalize hy : (b &&& 15).toNat = y at *
      generalize hx : b.toNat = x at *
      clear hx hy
      go_wp2
      exact ⟨⟨k + 1, by omega, by go_num, hset, hb2⟩, by simp [intOf]; omega⟩
    · have hgf : Hid (wr.heap[w.heap.size]? = some (.cells (bv (cl2 (cl1 l 4) 0)).toArray 45 (0, 0))) := by
        have h1 := hg.out
        rw [show k = 4 by omega] at h1
        exact h1
      have HM := Lib.hid (show (cl1 l 4).length = 16 by rw [cl1_len]; exact HL.out)
      have HCL := vlt (cl_both l HL.out)
      generalize cl1 l 4 = M at *
      clear hg
      go_wp2
      go_loopw [4] (fun i wr => ∃ k : Nat, k ≤ 3 ∧ i = .int .i64 (4 + 4 * (k : Int)) ∧ Hid (wr.heap[w.heap.size]? = some (.cells (bv (cl2 M k)).toArray 45 (0, 0))) ∧ But w.heap.size W wr) (fun i _ => 19 - (intOf i).toNat)
      case atStart => exact ⟨0, by omega, rfl, hgf, hbt⟩
      case round =>
        clear hgf hbt
        obtain ⟨k, hk, rfl, hg, hbt⟩ := hrel
        by_cases hlt : k < 3
        · obtain ⟨X, hX⟩ : ∃ X, X = cl2 M k := ⟨_, rfl⟩
          rw [← hX] at hg
          have HXL := Lib.hid (show X.length = 16 by rw [hX, cl2_len]; exact HM.out)
          have HX1 := vlt (show cl2 M (k + 1) = X.set (4 + 4 * k) (byteAt X (4 + 4 * k) &&& 252) by rw [hX, cl2])
          clear hX
          have hi16 : 4 + 4 * k < 16 := by omega
          have c0 := byteAt_cell hg.out (4 + 4 * k) (by rw [HXL.out]; exact hi16)
          have f0 : wr.frozen? ⟨w.heap.size, 4 + 4 * k, none⟩ = false := frozen_of_row _ _ _ _ _ hg.out
          generalize byteAt X (4 + 4 * k) = b at *
          have e1 := and252 b
          have hset : Hid ((wr.setCell ⟨w.heap.size, 4 + 4 * k, none⟩ (.int .u8 (((b &&& 252).toNat : Nat) : Int))).heap[w.heap.size]? = some (.cells (bv (cl2 M (k + 1))).toArray 45 (0, 0))) := by
            have h1 := (world_set_cell hg.out (4 + 4 * k) (.int .u8 (((b &&& 252).toNat : Nat) : Int))).out
            rw [bv_set, ← HX1.out] at h1
            exact h1
          have hb2 := hbt.set (i := 4 + 4 * k) (.int .u8 (((b &&& 252).toNat : Nat) : Int))
          have hb256 := UInt8.toNat_lt b
          generalize hy : (b &&& 252).toNat = y at *
          generalize hx : b.toNat = x at *
          clear hx hy
          go_wp2
          exact ⟨⟨k + 1, by omega, by go_num, hset, hb2⟩, by simp [intOf]; omega⟩
        · obtain ⟨out, hout⟩ : ∃ out, out = clampOf l := ⟨_, rfl⟩
          have hg3 : Hid (wr.heap[w.heap.size]? = some (.cells (bv out).toArray 45 (0, 0))) := by
            have h1 := hg.out
            rw [show k = 3 by omega, HCL.out, ← hout] at h1
            exact h1
          have HOS := Lib.hid (show (bv out).toArray.size = 16 by simp [bv_len, hout, clampOf_len, HL.out])
          have HZ16 := Lib.hid (show (bv z16).toArray.size = 16 from rfl)
          have hz3 : Hid (wr.heap[w.heap.size + 1]? = some (.cells (bv z16).toArray 45 (0, 0))) := (hbt.block _ (by omega) (by intro e; injection e; omega)).trans hgZ.out
          have hbw : Below w.heap.size w wr := But.below hbW hbt (by omega) (by omega)
          have HOUT := vlt hout
          clear hout hg HCL
          go_wp2_with (first
            | (with_reducible refine wpList_load_row rfl 45 (.tmp 1) rfl w.heap.size rfl 45 (bv out).toArray (0, 0) _ hg3.out Try.underlying45 rfl (by rw [HOS.out]; kernel_rfl) ?_)
            | (with_reducible refine wpList_store_row rfl 45 (.tmp 2) (.tmp 25) rfl (w.heap.size + 1) (bv out).toArray rfl rfl 45 _ hz3.out (by rw [HOS.out]; kernel_rfl) (by rw [HOS.out]; exact HZ16.out) (all_oneCell_toArray (bv_one _)) ?_))
          refine bodyPost_ret (v := .agg (bv out).toArray) (results_cell_row Try.results36 _ _ (w.heap.size + 1) 45 _ (0, 0) _ rfl (setRow_heap _ _ _ _ _ _ hz3.out) Try.underlying45 rfl (by rw [HOS.out]; kernel_rfl)) rfl ⟨by rw [HOUT.out], below_setRow hbw (by omega) _⟩
end Go.Proofs.Ytkeejkhapmcanaa
namespace Go.Proofs.Ytkeejkhapmcanaa
open Go.RowKit

def natsOf (l : List UInt8) : List Nat := l.map fun b => b.toNat
theorem natsOf_len (l : List UInt8) : (natsOf l).length = l.length := by simp [natsOf]
theorem lvN_nats (l : List UInt8) : lvN (natsOf l) = ln l := by
  induction l with
  | nil => rfl
  | cons b r ih => simp only [natsOf, List.map_cons, lvN, ln] at *; rw [ih]
theorem lvN_zeros (l : List Nat) (n : Nat) : lvN (l ++ List.replicate n 0) = lvN l := by
  induction l with
  | nil =>
    induction n with
    | zero => rfl
    | succ n ih => simp only [List.nil_append, List.replicate_succ, lvN] at *; rw [ih]
  | cons a r ih => simp only [List.cons_append, lvN, ih]
theorem lvN_upto (n : Nat) (l : List Nat) : lvN (uptoW n l) = lvN l := lvN_zeros l _
theorem upto_lt (n : Nat) (l : List Nat) (h : ∀ x ∈ l, x < 256) : ∀ x ∈ uptoW n l, x < 256 := by
  intro x hx
  rcases List.mem_append.1 hx with hx | hx
  · exact h x hx
  · rw [List.eq_of_mem_replicate hx]; decide
theorem nats_lt (l : List UInt8) : ∀ x ∈ natsOf l, x < 256 := by
  intro x hx
  obtain ⟨b, _, rfl⟩ := List.mem_map.1 hx
  exact b.toNat_lt
theorem fill_nats (l : List UInt8) (k : Nat) (b : UInt8) (hk : l[k]? = some b) (hl : l.length ≤ 16) : (uptoW 17 (natsOf (l.take k))).set k b.toNat = uptoW 17 (natsOf (l.take (k + 1))) := by
  have hkl : k < l.length := (List.getElem?_eq_some_iff.1 hk).1
  have e : (natsOf (l.take k)).length = k := by rw [natsOf_len, List.length_take]; omega
  have h1 := uptoW_set 17 (natsOf (l.take k)) b.toNat (by rw [e]; omega)
  rw [e] at h1
  rw [h1, take_at hk]
  simp [natsOf]
theorem uptoB_set (n : Nat) (l : List UInt8) (x : UInt8) (h : l.length < n) : (uptoB n l).set l.length x = uptoB n (l ++ [x]) := by
  obtain ⟨m, hm⟩ : ∃ m, n - l.length = m + 1 := ⟨n - l.length - 1, by omega⟩
  rw [uptoB, uptoB, List.set_append_right _ _ (Nat.le_refl _), Nat.sub_self, hm, List.replicate_succ, List.set_cons_zero, List.length_append, List.append_assoc]
  congr 3
  simp; omega
def bytesOf (l : List Nat) : List UInt8 := l.map UInt8.ofNat
theorem fill_bytes (F : List Nat) (k : Nat) (hk : k < 16) (hF : F.length = 17) : (uptoB 16 (bytesOf (F.take k))).set k (UInt8.ofNat (natAt F k)) = uptoB 16 (bytesOf (F.take (k + 1))) := by
  have e : (bytesOf (F.take k)).length = k := by simp [bytesOf, hF]; omega
  have h1 := uptoB_set 16 (bytesOf (F.take k)) (UInt8.ofNat (natAt F k)) (by rw [e]; omega)
  rw [e] at h1
  have hkF : k < F.length := by omega
  have e3 : natAt F k = F[k] := by simp [natAt, hkF]
  rw [h1, List.take_succ_eq_append_getElem hkF, e3]
  simp only [bytesOf, List.map_append, List.map_cons, List.map_nil]
theorem le_bytes (F : List Nat) (hF : F.length = 17) (hl : ∀ j, j < 16 → natAt F j < 256) : ∀ n, n ≤ 16 → le (lvN F) n = bytesOf (F.take n)
  | 0, _ => rfl
  | n + 1, h => by
    have hk : n < F.length := by omega
    rw [le, le_bytes F hF hl n (by omega), List.take_succ_eq_append_getElem hk]
    have hs := lvN_nat F n
    rw [Nat.min_eq_left (by omega)] at hs
    have h3 : lvN (F.take n) < 256 ^ (F.take n).length := lvN_lt _ (by
      intro x hx
      obtain ⟨k, hk2, rfl⟩ := List.mem_iff_getElem.1 hx
      have hkn : k < n := by simp at hk2; omega
      have := hl k (by omega)
      have hkX : k < F.length := by omega
      simpa [natAt, hkX] using this)
    have e : (F.take n).length = n := by simp; omega
    rw [e] at h3
    have hd : F.drop n = F[n] :: F.drop (n + 1) := List.drop_eq_getElem_cons hk
    have hq : lvN F / 2 ^ (8 * n) = F[n] + 256 * lvN (F.drop (n + 1)) := by
      rw [Nat.pow_mul, show (2 : Nat) ^ 8 = 256 by decide, hs, Nat.add_mul_div_left _ _ (Nat.pow_pos (by decide)), Nat.div_eq_of_lt h3, Nat.zero_add, hd, lvN]
    rw [hq]
    simp only [bytesOf, List.map_append, List.map_cons, List.map_nil]
    congr 2
    apply UInt8.toNat_inj.1
    rw [UInt8.toNat_ofNat', UInt8.toNat_ofNat']
    omega
theorem mm_ok (l : List UInt8) (h : l.length ≤ 16) : (uptoW 17 (natsOf l ++ [1])).length = 17 ∧ (∀ x ∈ uptoW 17 (natsOf l ++ [1]), x < 256) ∧ lvN (uptoW 17 (natsOf l ++ [1])) = ln l + 256 ^ l.length := by
  refine ⟨uptoW_len 17 _ (by rw [List.length_append, natsOf_len]; simp; omega), upto_lt 17 _ ?_, by rw [lvN_upto, lvN_snoc, lvN_nats, natsOf_len, Nat.one_mul]⟩
  intro x hx
  rcases List.mem_append.1 hx with hx | hx
  · exact nats_lt _ x hx
  · simp at hx; omega
/-- One block more. -/
theorem acc_next (r : Nat) (l : List UInt8) (k X M Y T R : Nat) (hX : X % PP = accR r l k) (hM : M = ln (blkAt l k) + 256 ^ (blkAt l k).length) (hY : Y = X + M) (hR : R = r) (hT : T % PP = Y * R % PP) : T % PP = accR r l (k + 1) := by
  subst hM hY hR
  rw [hT, accR, acc_mod, hX]
theorem tag_end (key l : List UInt8) (F : List Nat) (V S : Nat) (hF : F.length = 17) (hl : ∀ j, j < 16 → natAt F j < 256) (hv : lvN F = V + S) (hV : V = polyOf (rOf key) l) (hS : S = ln (key.drop 16)) : bytesOf (F.take 16) = tagOf key l := by
  have h := le_bytes F hF hl 16 (Nat.le_refl _)
  rw [← h, tagOf, ← hV, ← hS, ← hv, ← le_mod (lvN F) 16]
end Go.Proofs.Ytkeejkhapmcanaa
namespace Go.Proofs.Ytkeejkhapmcanaa
open Go.RowKit

theorem built_half : Try.prog.built 45 [] = some (bv z16).toArray := by kernel_rfl
set_option maxRecDepth 100000 in
set_option maxHeartbeats 4000000 in
theorem rtag_any (w : World) (key : List UInt8) (hk : key.length = 32) (A : Option Addr) (b : List UInt8) (n c : Nat) (hb : Byt w w.heap.size A b) (hl : b.length = n) (hn : n ≤ 1099511627776) :
    Calls Try.prog 23 #[.agg (bv key).toArray, .slice A n c] w fun e w' => e = .returned (.agg (bv (tagOf key b)).toArray) ∧ Below w.heap.size w w' := by
  have hz16 := zero_b16
  have hzn := zero_w17
  obtain ⟨W, hW, hgK, hgZ, hbW, hsW⟩ := pair_new w (bv key).toArray (bv z16).toArray 24 45
  have HW := Lib.hid hW
  have HK := Lib.hid hk
  have HL := Lib.hid hl
  have HZ16 := Lib.hid (show (bv z16).toArray.size = 16 from rfl)
  have HZS := Lib.hid (show (u32v z17).toArray.size = 17 from rfl)
  have hs1 : w.heap.size + 1 < W.heap.size := by have := hsW.out; omega
  have hbtW : Byt W w.heap.size A b := hb.below hbW
  clear hW hk hl hb
  go_enter Try.func23, Try.ntmps23
  go_upto_region 1 with fail
  rw [HW.out]
  go_wp2_with (first
    | (with_reducible refine wpList_build_to rfl 45 _ rfl [] (by rfl) _ built_half ?_)
    | ((with_reducible refine wpList_store_row rfl 45 (.tmp 5) (.tmp 18) rfl W.heap.size (bv z16).toArray rfl rfl 45 _ (heap_alloc_new _ _) (by rw [HZ16.out]; kernel_rfl) (by rw [HZ16.out]) (all_oneCell_toArray (bv_one _)) ?_); rw [World.setRow_alloc_new]))
  have g1 := Lib.hid (heap_alloc_new W (.cells (bv z16).toArray 45))
  have hb1 : Below W.heap.size W (W.alloc (.cells (bv z16).toArray 45)) := (Below.refl _ _).alloc (Nat.le_refl _) _
  have l1 : W.heap.size < (W.alloc (.cells (bv z16).toArray 45)).heap.size := by simp
  generalize W.alloc (.cells (bv z16).toArray 45) = w1 at *
  have hgK1 : Hid (w1.heap[w.heap.size]? = some (.cells (bv key).toArray 24 (0, 0))) := (hb1.block _ (by omega)).trans hgK.out
  have hgZ1 : Hid (w1.heap[w.heap.size + 1]? = some (.cells (bv z16).toArray 45 (0, 0))) := (hb1.block _ hs1).trans hgZ.out
  have hbt1 : Byt w1 w.heap.size A b := hbtW.keep fun p hp => hb1.cell (by omega)
  have hbw1 := below_next hbW hbW.size hb1
  obtain ⟨F, hF⟩ : ∃ F, F = W.heap.size := ⟨_, rfl⟩
  rw [← hF] at g1 l1 hs1 ⊢
  clear hF hgK hgZ hbtW hbW hb1
  have hc1 := cut_all Try.underlying45 Try.sizeByte F 0 (by decide)
  have hc2 := cut_lh Try.underlying24 Try.sizeByte w.heap.size 0 0 16 0 16 rfl rfl (by decide) (by decide) (by decide)
  have hbk := byt_mid hgK1.out 0 16
  rw [List.drop_zero] at hbk
  have hkl := Lib.hid (show (key.take 16).length = 16 by simp [HK.out])
  go_region_law ((refine step_copy_but rfl (.tmp 19) (.tmp 20) 26 rfl 5 Try.underlying26 Try.sizeByte F 0 16 16 16 32 (some ⟨w.heap.size, 0, none⟩) (by rfl) (by rfl) (bv z16) 45 g1.out (key.take 16) w1.heap.size hbk hkl.out (by decide) (by decide) w1 (But.refl F w1).drew ?_; intro w2 hg2 hb2))
  have g2 : Hid (w2.heap[F]? = some (.cells (bv (key.take 16)).toArray 45 (0, 0))) := by
    have h1 := hg2.out
    rw [List.take_of_length_le (show (key.take 16).length ≤ 16 by rw [hkl.out]; exact Nat.le_refl _), splice_all _ _ (by rw [hkl.out]; rfl)] at h1
    exact h1
  have hgK2 : Hid (w2.heap[w.heap.size]? = some (.cells (bv key).toArray 24 (0, 0))) := (hb2.block _ (by omega) (by intro e; injection e; omega)).trans hgK1.out
  have hgZ2 : Hid (w2.heap[w.heap.size + 1]? = some (.cells (bv z16).toArray 45 (0, 0))) := (hb2.block _ (by omega) (by intro e; injection e; omega)).trans hgZ1.out
  have hbt2 : Byt w2 w.heap.size A b := hbt1.but hb2 (by omega) (by omega)
  have hbw2 : Below w.heap.size w w2 := But.below hbw1 hb2 (by omega) hbw1.size
  have l2 : F < w2.heap.size := (Array.getElem?_eq_some_iff.1 g2.out).1
  have HRS := Lib.hid (show (bv (key.take 16)).toArray.size = 16 by simp [bv_len, hkl.out])
  have hclamp := refClamp_any w2 (key.take 16) hkl.out
  obtain ⟨cl, hcl⟩ : ∃ cl, cl = clampOf (key.take 16) := ⟨_, rfl⟩
  have HR := vlt (show rOf key = ln cl by rw [hcl]; rfl)
  have hcll := Lib.hid (show cl.length = 16 by rw [hcl, clampOf_len]; exact hkl.out)
  rw [← hcl] at hclamp
  have HCS := Lib.hid (show (bv cl).toArray.size = 16 by simp [bv_len, hcll.out])
  clear hc1 hc2 hbk hgK1 hgZ1 hbt1 hbw1 hb2 hg2 g1 l1 hcl hkl
  obtain ⟨k0, hk0⟩ : ∃ k0, k0 = key.take 16 := ⟨_, rfl⟩
  rw [← hk0] at hclamp g2 HRS
  clear hk0
  go_wp2_with (with_reducible refine wpList_load_row rfl 45 (.tmp 5) rfl F rfl 45 (bv k0).toArray (0, 0) _ g2.out Try.underlying45 rfl (by rw [HRS.out]; kernel_rfl) ?_)
  refine hclamp.mono ?_
  rintro e w3 ⟨rfl, hb3⟩
  have hgK3 : Hid (w3.heap[w.heap.size]? = some (.cells (bv key).toArray 24 (0, 0))) := (hb3.block _ (by omega)).trans hgK2.out
  have hgZ3 : Hid (w3.heap[w.heap.size + 1]? = some (.cells (bv z16).toArray 45 (0, 0))) := (hb3.block _ (by omega)).trans hgZ2.out
  have hbt3 : Byt w3 w.heap.size A b := hbt2.keep fun p hp => hb3.cell (by omega)
  have hbw3 := below_next hbw2 hbw2.size hb3
  have l3 : w.heap.size + 1 < w3.heap.size := by have := hb3.size; omega
  clear hclamp g2 hgK2 hgZ2 hbt2 hbw2 hb3 HRS
  go_upto_region 4 with ((with_reducible refine wpList_store_row rfl 45 (.tmp 6) (.tmp 23) rfl w3.heap.size (bv cl).toArray rfl rfl 45 _ (heap_alloc_new _ _) (by rw [HCS.out]; kernel_rfl) (by rw [HCS.out]; exact HZ16.out) (all_oneCell_toArray (bv_one _)) ?_); rw [World.setRow_alloc_new])
  have gc := Lib.hid (heap_alloc_new w3 (.cells (bv cl).toArray 45))
  have hb4 : Below w3.heap.size w3 (w3.alloc (.cells (bv cl).toArray 45)) := (Below.refl _ _).alloc (Nat.le_refl _) _
  have l4 : w3.heap.size < (w3.alloc (.cells (bv cl).toArray 45)).heap.size := by simp
  generalize w3.alloc (.cells (bv cl).toArray 45) = w4 at *
  have hgK4 : Hid (w4.heap[w.heap.size]? = some (.cells (bv key).toArray 24 (0, 0))) := (hb4.block _ (by omega)).trans hgK3.out
  have hgZ4 : Hid (w4.heap[w.heap.size + 1]? = some (.cells (bv z16).toArray 45 (0, 0))) := (hb4.block _ (by omega)).trans hgZ3.out
  have hbt4 : Byt w4 w.heap.size A b := hbt3.keep fun p hp => hb4.cell (by omega)
  have hbw4 := below_next hbw3 hbw3.size hb4
  obtain ⟨C, hC⟩ : ∃ C, C = w3.heap.size := ⟨_, rfl⟩
  have hwC : w.heap.size + 1 < C := by omega
  rw [← hC] at gc l4 ⊢
  clear hC hgK3 hgZ3 hbt3 hbw3 hb4 l2 hs1
  go_upto_region 5 with fail
  have hgr0 : Hid ((w4.alloc (.cells (u32v z17).toArray 64)).heap[w4.heap.size]? = some (.cells (u32v (uptoW 17 (natsOf (cl.take 0)))).toArray 64 (0, 0))) := heap_alloc_new _ _
  have hb5 : Below w4.heap.size w4 (w4.alloc (.cells (u32v z17).toArray 64)) := (Below.refl _ _).alloc (Nat.le_refl _) _
  have l5 : w4.heap.size < (w4.alloc (.cells (u32v z17).toArray 64)).heap.size := by simp
  generalize w4.alloc (.cells (u32v z17).toArray 64) = w5 at *
  have gc5 : Hid (w5.heap[C]? = some (.cells (bv cl).toArray 45 (0, 0))) := (hb5.block _ l4).trans gc.out
  have hgK5 : Hid (w5.heap[w.heap.size]? = some (.cells (bv key).toArray 24 (0, 0))) := (hb5.block _ (by omega)).trans hgK4.out
  have hgZ5 : Hid (w5.heap[w.heap.size + 1]? = some (.cells (bv z16).toArray 45 (0, 0))) := (hb5.block _ (by omega)).trans hgZ4.out
  have hbt5 : Byt w5 w.heap.size A b := hbt4.keep fun p hp => hb5.cell (by omega)
  have hbw5 := below_next hbw4 hbw4.size hb5
  obtain ⟨P, hP⟩ : ∃ P, P = w4.heap.size := ⟨_, rfl⟩
  have hCP : C < P := by omega
  rw [← hP] at hgr0 l5 ⊢
  clear hP gc hgK4 hgZ4 hbt4 hbw4 hb5 l4 l3
  go_wp2_with fail
  go_loopw [8] (fun i wr => ∃ k : Nat, k ≤ 16 ∧ i = .int .i64 (k : Int) ∧ Hid (wr.heap[P]? = some (.cells (u32v (uptoW 17 (natsOf (cl.take k)))).toArray 64 (0, 0))) ∧ But P w5 wr) (fun i _ => 16 - (intOf i).toNat)
  case atStart => exact ⟨0, by omega, rfl, hgr0, But.refl _ _⟩
  case round =>
    clear hgr0
    obtain ⟨k, hk, rfl, hg, hbt⟩ := hrel
    by_cases hlt : k < 16
    · have hi16 : (k : Int) < 16 := by omega
      have hi17 : (k : Int) < 17 := by omega
      have gcr : Hid (wr.heap[C]? = some (.cells (bv cl).toArray 45 (0, 0))) := (hbt.block _ (by omega) (by intro e; injection e; omega)).trans gc5.out
      have c0 := byteAt_cell gcr.out k (by rw [hcll.out]; exact hlt)
      have hlen : (uptoW 17 (natsOf (cl.take k))).length = 17 := uptoW_len 17 _ (by rw [natsOf_len, List.length_take]; omega)
      have c1 := word_at hg.out k (by rw [hlen]; omega)
      have f0 : wr.frozen? ⟨P, k, none⟩ = false := frozen_of_row _ _ _ _ _ hg.out
      have hset := world_set_cell hg.out k (.int .u32 (((byteAt cl k).toNat : Nat) : Int))
      rw [u32v_set, fill_nats cl k (byteAt cl k) (by simp [byteAt, List.getElem?_eq_getElem (show k < cl.length by rw [hcll.out]; exact hlt)]) (by rw [hcll.out]; exact Nat.le_refl _)] at hset
      have hb2 := hbt.set (i := k) (.int .u32 (((byteAt cl k).toNat : Nat) : Int))
      have lx := (byteAt cl k).toNat_lt
      clear hlen gcr
      generalize (byteAt cl k).toNat = x at *
      generalize natAt (uptoW 17 (natsOf (cl.take k))) k = z at *
      go_wp2
      exact ⟨⟨k + 1, by omega, by go_num, hset, hb2⟩, by simp [intOf]; omega⟩
    · obtain ⟨rr, hrr⟩ : ∃ rr, rr = uptoW 17 (natsOf cl) := ⟨_, rfl⟩
      have hgr : Hid (wr.heap[P]? = some (.cells (u32v rr).toArray 64 (0, 0))) := by
        have h1 := hg.out
        rw [List.take_of_length_le (by rw [hcll.out]; omega), ← hrr] at h1
        exact h1
      have HRR := vlt (show rr.length = 17 ∧ (∀ x ∈ rr, x < 256) ∧ lvN rr = rOf key by
        refine ⟨by rw [hrr]; exact uptoW_len 17 _ (by rw [natsOf_len, hcll.out]; decide), by rw [hrr]; exact upto_lt 17 _ (nats_lt _), by rw [hrr, lvN_upto, lvN_nats, HR.out]⟩)
      have HRS := Lib.hid (show (u32v rr).toArray.size = 17 by simp [u32v_len, HRR.out.1])
      have hgK6 : Hid (wr.heap[w.heap.size]? = some (.cells (bv key).toArray 24 (0, 0))) := (hbt.block _ (by omega) (by intro e; injection e; omega)).trans hgK5.out
      have hgZ6 : Hid (wr.heap[w.heap.size + 1]? = some (.cells (bv z16).toArray 45 (0, 0))) := (hbt.block _ (by omega) (by intro e; injection e; omega)).trans hgZ5.out
      have hbt6 : Byt wr w.heap.size A b := hbt5.but hbt (by omega) (by omega)
      have hbw6 : Below w.heap.size w wr := But.below hbw5 hbt (by omega) hbw5.size
      have l6 : P < wr.heap.size := (Array.getElem?_eq_some_iff.1 hgr.out).1
      have hi16 : ¬ (k : Int) < 16 := by omega
      clear hrr hg hgK5 hgZ5 hbt5 hbw5 hbt gc5 l5 HR HCS hcll
      go_wp2_with fail
      have hgH0 : Hid ((wr.alloc (.cells (u32v z17).toArray 64)).heap[wr.heap.size]? = some (.cells (u32v z17).toArray 64 (0, 0))) := heap_alloc_new _ _
      have hb7 : Below wr.heap.size wr (wr.alloc (.cells (u32v z17).toArray 64)) := (Below.refl _ _).alloc (Nat.le_refl _) _
      have l7 : wr.heap.size < (wr.alloc (.cells (u32v z17).toArray 64)).heap.size := by simp
      generalize wr.alloc (.cells (u32v z17).toArray 64) = V at *
      have hgP7 : Hid (V.heap[P]? = some (.cells (u32v rr).toArray 64 (0, 0))) := (hb7.block _ l6).trans hgr.out
      have hgK7 : Hid (V.heap[w.heap.size]? = some (.cells (bv key).toArray 24 (0, 0))) := (hb7.block _ (by omega)).trans hgK6.out
      have hgZ7 : Hid (V.heap[w.heap.size + 1]? = some (.cells (bv z16).toArray 45 (0, 0))) := (hb7.block _ (by omega)).trans hgZ6.out
      have hbt7 : Byt V w.heap.size A b := hbt6.keep fun p hp => hb7.cell (by omega)
      have hbw7 := below_next hbw6 hbw6.size hb7
      obtain ⟨H, hH⟩ : ∃ H, H = wr.heap.size := ⟨_, rfl⟩
      have hPH : P < H := by omega
      rw [← hH] at hgH0 l7 ⊢
      clear hH hgr hgK6 hgZ6 hbt6 hbw6 hb7 l6
      go_loopw [10] (fun at_ wr => ∃ (k : Nat) (X : List Nat), k ≤ (n + 15) / 16 ∧ at_ = .int .i64 (16 * (k : Int)) ∧ Hid (wr.heap[H]? = some (.cells (u32v X).toArray 64 (0, 0))) ∧ Vlt (X.length = 17 ∧ (∀ x ∈ X, x < 256) ∧ lvN X % PP = accR (rOf key) b k) ∧ But H V wr) (fun i _ => n + 16 - (intOf i).toNat)
      case atStart => exact ⟨0, z17, by omega, rfl, hgH0, vlt ⟨rfl, by decide, rfl⟩, But.refl _ _⟩
      case round =>
        clear hgH0
        obtain ⟨k, X, hk, rfl, hgX, HX, hbt⟩ := hrel
        obtain ⟨Y0, hY0⟩ : ∃ Y0, Y0 = wr := ⟨_, rfl⟩
        subst hY0
        have hYs := hbt.size
        have hHY : H < Y0.heap.size := by omega
        have hgPY : Hid (Y0.heap[P]? = some (.cells (u32v rr).toArray 64 (0, 0))) := (hbt.block _ (by omega) (by intro e; injection e; omega)).trans hgP7.out
        have hbtY : Byt Y0 w.heap.size A b := hbt7.but hbt (by omega) (by omega)
        by_cases hlt : 16 * k < n
        · have hli : 16 * (k : Int) < (n : Int) := by omega
          obtain ⟨blk, hblk⟩ : ∃ blk, blk = blkAt b k := ⟨_, rfl⟩
          have HBLK := vlt hblk
          have hgMU : Hid ((Y0.alloc (.cells (u32v z17).toArray 64)).heap[Y0.heap.size]? = some (.cells (u32v z17).toArray 64 (0, 0))) := heap_alloc_new _ _
          have hbYU : Below Y0.heap.size Y0 (Y0.alloc (.cells (u32v z17).toArray 64)) := (Below.refl _ _).alloc (Nat.le_refl _) _
          have lMU : Y0.heap.size < (Y0.alloc (.cells (u32v z17).toArray 64)).heap.size := by simp
          by_cases h16 : 16 < n - 16 * k
          · have h16i : (16 : Int) < (n : Int) - 16 * (k : Int) := by omega
            have HBL := Lib.hid (show blk.length = 16 by rw [hblk, blkAt, List.length_take, List.length_drop, HL.out]; omega)
            clear hblk
            go_wp2_with fail
            generalize Y0.alloc (.cells (u32v z17).toArray 64) = U at *
            obtain ⟨M, hM⟩ : ∃ M, M = Y0.heap.size := ⟨_, rfl⟩
            have hYM : Y0.heap.size ≤ M := by omega
            rw [← hM] at hgMU lMU ⊢
            clear hM
            have hbtU : Byt U w.heap.size A b := hbtY.keep fun p hp => hbYU.cell (by omega)
            have hgM0 : Hid (U.heap[M]? = some (.cells (u32v (uptoW 17 (natsOf (blk.take 0)))).toArray 64 (0, 0))) := hgMU
            go_wp2_with fail
            go_loopw [13] (fun i ws => ∃ j : Nat, j ≤ 16 ∧ i = .int .i64 (j : Int) ∧ Hid (ws.heap[M]? = some (.cells (u32v (uptoW 17 (natsOf (blk.take j)))).toArray 64 (0, 0))) ∧ But M U ws) (fun i _ => 16 - (intOf i).toNat)
            case atStart => exact ⟨0, by omega, rfl, hgM0, But.refl _ _⟩
            case round =>
              clear hgM0 hgMU
              obtain ⟨j, hj, rfl, hgm, hbm⟩ := hrel
              have hbtj : Byt wr w.heap.size A b := hbtU.but hbm (by omega) (by omega)
              by_cases hjq : j < 16
              · have hji : (j : Int) < 16 := by omega
                obtain ⟨gb, ob, x, rfl, hgb, hx, hcell, hget⟩ := hbtj.at_ (k := 16 * k + j) (by rw [HL.out]; omega)
                have hblk : blk[j]? = some (UInt8.ofNat x) := by
                  rw [HBLK.out, blkAt, List.getElem?_take_of_lt (by omega), List.getElem?_drop]; exact hget.out
                have hlen : (uptoW 17 (natsOf (blk.take j))).length = 17 := uptoW_len 17 _ (by rw [natsOf_len, List.length_take]; omega)
                have c1 := word_at hgm.out j (by rw [hlen]; omega)
                have f0 : wr.frozen? ⟨M, j, none⟩ = false := frozen_of_row _ _ _ _ _ hgm.out
                have hset := world_set_cell hgm.out j (.int .u32 (((UInt8.ofNat x).toNat : Nat) : Int))
                rw [u32v_set, fill_nats blk j _ hblk (by rw [HBL.out]; omega), UInt8.toNat_ofNat', Nat.mod_eq_of_lt hx] at hset
                have hb2 := hbm.set (i := j) (.int .u32 (x : Int))
                have hin : 16 * (k : Int) + (j : Int) < (n : Int) := by omega
                have hj17 : (j : Int) < 17 := by omega
                clear hlen hblk hget hbtj
                generalize natAt (uptoW 17 (natsOf (blk.take j))) j = z at *
                go_wp2
                exact ⟨⟨j + 1, by omega, by go_num, hset, hb2⟩, by simp [intOf]; omega⟩
              · have hji : ¬ (j : Int) < 16 := by omega
                obtain ⟨mm, hmm⟩ : ∃ mm, mm = uptoW 17 (natsOf blk ++ [1]) := ⟨_, rfl⟩
                have hnl : (natsOf blk).length = 16 := by rw [natsOf_len, HBL.out]
                have hgm1 : Hid (wr.heap[M]? = some (.cells (u32v (uptoW 17 (natsOf blk))).toArray 64 (0, 0))) := by
                  have h1 := hgm.out
                  rw [List.take_of_length_le (by rw [HBL.out]; omega)] at h1
                  exact h1
                have c1 := word_at hgm1.out 16 (by rw [uptoW_len 17 _ (by rw [hnl]; omega)]; omega)
                have f0 : wr.frozen? ⟨M, 16, none⟩ = false := frozen_of_row _ _ _ _ _ hgm1.out
                have hset := world_set_cell hgm1.out 16 (.int .u32 ((1 : Nat) : Int))
                have hus := uptoW_set 17 (natsOf blk) 1 (by rw [hnl]; omega)
                rw [hnl] at hus
                rw [u32v_set, hus, ← hmm] at hset
                rw [show (((1 : Nat) : Nat) : Int) = 1 from rfl] at hset
                have hb2 := hbm.set (i := 16) (.int .u32 1)
                have HMM := vlt (show mm.length = 17 ∧ (∀ x ∈ mm, x < 256) ∧ lvN mm = ln blk + 256 ^ blk.length by rw [hmm]; exact mm_ok blk (by rw [HBL.out]; omega))
                have HMS := Lib.hid (show (u32v mm).toArray.size = 17 by simp [u32v_len, HMM.out.1])
                have hbU2 : Below Y0.heap.size Y0 (wr.setCell ⟨M, 16, none⟩ (.int .u32 1)) := But.below hbYU hb2 hYM (by omega)
                have hQ17 : 16 < 17 := by omega
                clear hus hnl hmm hgm hgm1 hbm hbtj
                generalize natAt (uptoW 17 (natsOf blk)) 16 = z at *
                go_wp2_with fail
                generalize wr.setCell ⟨M, 16, none⟩ (.int .u32 1) = U2 at *
                have hX2 : Hid (U2.heap[H]? = some (.cells (u32v X).toArray 64 (0, 0))) := (hbU2.block _ hHY).trans hgX.out
                have hP2 : Hid (U2.heap[P]? = some (.cells (u32v rr).toArray 64 (0, 0))) := (hbU2.block _ (by omega)).trans hgPY.out
                have rX := Lib.hid (range_part [] (u32v X) [] (by rw [List.append_nil]; exact hX2.out) 0 rfl)
                have rM := Lib.hid (range_part [] (u32v mm) [] (by rw [List.append_nil]; exact hset.out) 0 rfl)
                have rP := Lib.hid (range_part [] (u32v rr) [] (by rw [List.append_nil]; exact hP2.out) 0 rfl)
                have lX := Lib.hid (show (u32v X).length = 17 by rw [u32v_len, HX.out.1])
                have lM := Lib.hid (show (u32v mm).length = 17 by rw [u32v_len, HMM.out.1])
                have lP := Lib.hid (show (u32v rr).length = 17 by rw [u32v_len, HRR.out.1])
                have lXS := Lib.hid (show (u32v X).toArray.size = 17 by simp [lX.out])
                have hM2 : M < U2.heap.size := (Array.getElem?_eq_some_iff.1 hset.out).1
                have hHU : H < U2.heap.size := by omega
                have hPU : P < U2.heap.size := by omega
                clear hset hP2 hb2 c1 f0
                refine c_start (S := (fun W' => Below U2.heap.size U2 W' ∧ W'.rangeAt H 0 (u32v X) ∧ W'.rangeAt M 0 (u32v mm) ∧ W'.rangeAt P 0 (u32v rr))) 5 (by kernel_rfl) (⟨(Below.refl _ _).drew, rX.out, rM.out, rP.out⟩) (fun hHeld => ?_)
                refine c_read (i := 0) (oi := ⟨(some 62), _, _, _, _, _⟩) (v := _) rfl (by decide) (by kernel_rfl) (by kernel_rfl) (by kernel_rfl) (by kernel_rfl) (by kernel_rfl) (fun _ _ _ h => h) (yieldsIf_load_mid (by rfl) _ _ rfl H 0 rfl (u32v X) _ ((fun _ h => h.2.1)) (Try.underlying64) (rfl) (by rw [lX.out]; kernel_rfl)) hHeld ?_
                try simp only [Act.put, List.setIfInBounds_toArray, List.set_cons_zero, List.set_cons_succ]
                refine c_read (i := 1) (oi := ⟨(some 63), _, _, _, _, _⟩) (v := _) rfl (by decide) (by kernel_rfl) (by kernel_rfl) (by kernel_rfl) (by kernel_rfl) (by kernel_rfl) (fun _ _ _ h => h) (yieldsIf_load_mid (by rfl) _ _ rfl M 0 rfl (u32v mm) _ ((fun _ h => h.2.2.1)) (Try.underlying64) (rfl) (by rw [lM.out]; kernel_rfl)) hHeld ?_
                try simp only [Act.put, List.setIfInBounds_toArray, List.set_cons_zero, List.set_cons_succ]
                refine c_read (i := 3) (oi := ⟨(some 65), _, _, _, _, _⟩) (v := _) rfl (by decide) (by kernel_rfl) (by kernel_rfl) (by kernel_rfl) (by kernel_rfl) (by kernel_rfl) (fun _ _ _ h => h) (yieldsIf_load_mid (by rfl) _ _ rfl P 0 rfl (u32v rr) _ ((fun _ h => h.2.2.2)) (Try.underlying64) (rfl) (by rw [lP.out]; kernel_rfl)) hHeld ?_
                try simp only [Act.put, List.setIfInBounds_toArray, List.set_cons_zero, List.set_cons_succ]
                refine c_step (i := 2) (o := ⟨(some 64), _, _, _, _, _⟩) (by kernel_rfl) rfl (fun K hK => ?_)
                go_simp
                refine (rplus_any _ X mm HX.out.1 HMM.out.1 HX.out.2.1 HMM.out.2.1).mono ?_
                rintro e w8 ⟨Yp, rfl, hYl, hY, hb8⟩
                have hb8' : Below U2.heap.size U2 w8 := below_undrew hb8
                refine hK.out _ _ (⟨hb8', range_below rX.out hHU hb8', range_below rM.out hM2 hb8', range_below rP.out hPU hb8'⟩) (fun hHeld => ?_)
                clear hK K
                try simp only [Act.put, List.setIfInBounds_toArray, List.set_cons_zero, List.set_cons_succ]
                refine c_step (i := 4) (o := ⟨(some 66), _, _, _, _, _⟩) (by kernel_rfl) rfl (fun K hK => ?_)
                go_simp
                refine (rtimes_any w8 Yp rr hYl.out HRR.out.1 (natAt_all (fun k hk => by rw [hYl.out] at hk; rcases Nat.lt_or_ge k 16 with h | h; exact Nat.lt_trans (hY.out.1 k h) (by decide); rw [show k = 16 by omega]; exact Nat.lt_trans hY.out.2.1 (by decide))) (fun x hx => Nat.lt_trans (HRR.out.2.1 x hx) (by decide))).mono ?_
                rintro e w9 ⟨T, rfl, hTl, hT, hb9⟩
                have hb9' : Below U2.heap.size U2 w9 := below_next hb8' hb8'.size hb9
                refine hK.out _ _ (⟨hb9', range_below rX.out hHU hb9', range_below rM.out hM2 hb9', range_below rP.out hPU hb9'⟩) (fun hHeld => ?_)
                clear hK K
                try simp only [Act.put, List.setIfInBounds_toArray, List.set_cons_zero, List.set_cons_succ]
                have hX9 : Hid (w9.heap[H]? = some (.cells (u32v X).toArray 64 (0, 0))) := (hb9'.block _ hHU).trans hX2.out
                have HTS := Lib.hid (show (u32v T).toArray.size = 17 by simp [u32v_len, hTl.out])
                refine c_call (S' := (fun _ => True)) (o := ⟨none, _, _, _, _, _⟩) (by kernel_rfl) (by kernel_rfl) rfl (fun K hK => ?_)
                clear hHeld
                refine step_store_row rfl 64 (.tmp 9) (.tmp 66) rfl H (u32v T).toArray (by rfl) (by rfl) 64 _ hX9.out (by rw [HTS.out]; kernel_rfl) (by rw [HTS.out]; exact lXS.out) (all_oneCell_toArray (u32v_one _)) ?_
                refine hK.out _ _ (trivial) (fun hHeld => ?_)
                clear hK K
                try simp only [Act.put]
                refine wpAnyH_done (by kernel_rfl) ?_ _
                have hfin : Hid ((w9.setRow H (u32v T).toArray).heap[H]? = some (.cells (u32v T).toArray 64 (0, 0))) := setRow_heap _ _ _ _ _ _ hX9.out
                have hbfin : But H V (w9.setRow H (u32v T).toArray) := ((hbt.trans (But.of_below hbU2 (Nat.le_refl _))).trans (But.of_below hb9' (Nat.le_refl _))).row _
                have HNX := vlt (show T.length = 17 ∧ (∀ x ∈ T, x < 256) ∧ lvN T % PP = accR (rOf key) b (k + 1) from ⟨hTl.out, natAt_all (fun k hk => hT.out.1 k (by rw [hTl.out] at hk; exact hk)),
                  acc_next (rOf key) b k (lvN X) (lvN mm) (lvN Yp) (lvN T) (lvN rr) HX.out.2.2 (by rw [← HBLK.out]; exact HMM.out.2.2) hY.out.2.2 HRR.out.2.2 hT.out.2.2⟩)
                clear hX9 hX2 hY hT rX rM rP hb8' hb9'
                generalize w9.setRow H (u32v T).toArray = w10 at *
                go_wp2
                exact ⟨⟨k + 1, T, by omega, by go_num, hfin, HNX, hbfin⟩, by simp [intOf]; omega⟩
          · obtain ⟨d, hd, hd2⟩ : ∃ d : Nat, (n : Int) - 16 * (k : Int) = (d : Int) ∧ d = n - 16 * k := ⟨n - 16 * k, by omega, rfl⟩
            have hd16 : ¬ (16 : Int) < (d : Int) := by omega
            have HBL := Lib.hid (show blk.length = d by rw [hblk, blkAt, List.length_take, List.length_drop, HL.out]; omega)
            have hd3 : 16 * k + d ≤ n := by omega
            have hd4 : n ≤ 16 * k + d := by omega
            have hd5 : 0 < d := by omega
            clear hblk hd2
            go_wp2_with fail
            generalize Y0.alloc (.cells (u32v z17).toArray 64) = U at *
            obtain ⟨M, hM⟩ : ∃ M, M = Y0.heap.size := ⟨_, rfl⟩
            have hYM : Y0.heap.size ≤ M := by omega
            rw [← hM] at hgMU lMU ⊢
            clear hM hd
            have hbtU : Byt U w.heap.size A b := hbtY.keep fun p hp => hbYU.cell (by omega)
            have hgM0 : Hid (U.heap[M]? = some (.cells (u32v (uptoW 17 (natsOf (blk.take 0)))).toArray 64 (0, 0))) := hgMU
            go_wp2_with fail
            go_loopw [13] (fun i ws => ∃ j : Nat, j ≤ d ∧ i = .int .i64 (j : Int) ∧ Hid (ws.heap[M]? = some (.cells (u32v (uptoW 17 (natsOf (blk.take j)))).toArray 64 (0, 0))) ∧ But M U ws) (fun i _ => d - (intOf i).toNat)
            case atStart => exact ⟨0, by omega, rfl, hgM0, But.refl _ _⟩
            case round =>
              clear hgM0 hgMU
              obtain ⟨j, hj, rfl, hgm, hbm⟩ := hrel
              have hbtj : Byt wr w.heap.size A b := hbtU.but hbm (by omega) (by omega)
              by_cases hjq : j < d
              · have hji : (j : Int) < (d : Int) := by omega
                obtain ⟨gb, ob, x, rfl, hgb, hx, hcell, hget⟩ := hbtj.at_ (k := 16 * k + j) (by rw [HL.out]; omega)
                have hblk : blk[j]? = some (UInt8.ofNat x) := by
                  rw [HBLK.out, blkAt, List.getElem?_take_of_lt (by omega), List.getElem?_drop]; exact hget.out
                have hlen : (uptoW 17 (natsOf (blk.take j))).length = 17 := uptoW_len 17 _ (by rw [natsOf_len, List.length_take]; omega)
                have c1 := word_at hgm.out j (by rw [hlen]; omega)
                have f0 : wr.frozen? ⟨M, j, none⟩ = false := frozen_of_row _ _ _ _ _ hgm.out
                have hset := world_set_cell hgm.out j (.int .u32 (((UInt8.ofNat x).toNat : Nat) : Int))
                rw [u32v_set, fill_nats blk j _ hblk (by rw [HBL.out]; omega), UInt8.toNat_ofNat', Nat.mod_eq_of_lt hx] at hset
                have hb2 := hbm.set (i := j) (.int .u32 (x : Int))
                have hin : 16 * (k : Int) + (j : Int) < (n : Int) := by omega
                have hj17 : (j : Int) < 17 := by omega
                clear hlen hblk hget hbtj
                generalize natAt (uptoW 17 (natsOf (blk.take j))) j = z at *
                go_wp2
                exact ⟨⟨j + 1, by omega, by go_num, hset, hb2⟩, by simp [intOf]; omega⟩
              · have hji : ¬ (j : Int) < (d : Int) := by omega
                obtain ⟨mm, hmm⟩ : ∃ mm, mm = uptoW 17 (natsOf blk ++ [1]) := ⟨_, rfl⟩
                have hnl : (natsOf blk).length = d := by rw [natsOf_len, HBL.out]
                have hgm1 : Hid (wr.heap[M]? = some (.cells (u32v (uptoW 17 (natsOf blk))).toArray 64 (0, 0))) := by
                  have h1 := hgm.out
                  rw [List.take_of_length_le (by rw [HBL.out]; omega)] at h1
                  exact h1
                have c1 := word_at hgm1.out d (by rw [uptoW_len 17 _ (by rw [hnl]; omega)]; omega)
                have f0 : wr.frozen? ⟨M, d, none⟩ = false := frozen_of_row _ _ _ _ _ hgm1.out
                have hset := world_set_cell hgm1.out d (.int .u32 ((1 : Nat) : Int))
                have hus := uptoW_set 17 (natsOf blk) 1 (by rw [hnl]; omega)
                rw [hnl] at hus
                rw [u32v_set, hus, ← hmm] at hset
                rw [show (((1 : Nat) : Nat) : Int) = 1 from rfl] at hset
                have hb2 := hbm.set (i := d) (.int .u32 1)
                have HMM := vlt (show mm.length = 17 ∧ (∀ x ∈ mm, x < 256) ∧ lvN mm = ln blk + 256 ^ blk.length by rw [hmm]; exact mm_ok blk (by rw [HBL.out]; omega))
                have HMS := Lib.hid (show (u32v mm).toArray.size = 17 by simp [u32v_len, HMM.out.1])
                have hbU2 : Below Y0.heap.size Y0 (wr.setCell ⟨M, d, none⟩ (.int .u32 1)) := But.below hbYU hb2 hYM (by omega)
                have hQ17 : (d : Int) < 17 := by omega
                clear hus hnl hmm hgm hgm1 hbm hbtj
                generalize natAt (uptoW 17 (natsOf blk)) d = z at *
                go_wp2_with fail
                generalize wr.setCell ⟨M, d, none⟩ (.int .u32 1) = U2 at *
                have hX2 : Hid (U2.heap[H]? = some (.cells (u32v X).toArray 64 (0, 0))) := (hbU2.block _ hHY).trans hgX.out
                have hP2 : Hid (U2.heap[P]? = some (.cells (u32v rr).toArray 64 (0, 0))) := (hbU2.block _ (by omega)).trans hgPY.out
                have rX := Lib.hid (range_part [] (u32v X) [] (by rw [List.append_nil]; exact hX2.out) 0 rfl)
                have rM := Lib.hid (range_part [] (u32v mm) [] (by rw [List.append_nil]; exact hset.out) 0 rfl)
                have rP := Lib.hid (range_part [] (u32v rr) [] (by rw [List.append_nil]; exact hP2.out) 0 rfl)
                have lX := Lib.hid (show (u32v X).length = 17 by rw [u32v_len, HX.out.1])
                have lM := Lib.hid (show (u32v mm).length = 17 by rw [u32v_len, HMM.out.1])
                have lP := Lib.hid (show (u32v rr).length = 17 by rw [u32v_len, HRR.out.1])
                have lXS := Lib.hid (show (u32v X).toArray.size = 17 by simp [lX.out])
                have hM2 : M < U2.heap.size := (Array.getElem?_eq_some_iff.1 hset.out).1
                have hHU : H < U2.heap.size := by omega
                have hPU : P < U2.heap.size := by omega
                clear hset hP2 hb2 c1 f0
                refine c_start (S := (fun W' => Below U2.heap.size U2 W' ∧ W'.rangeAt H 0 (u32v X) ∧ W'.rangeAt M 0 (u32v mm) ∧ W'.rangeAt P 0 (u32v rr))) 5 (by kernel_rfl) (⟨(Below.refl _ _).drew, rX.out, rM.out, rP.out⟩) (fun hHeld => ?_)
                refine c_read (i := 0) (oi := ⟨(some 62), _, _, _, _, _⟩) (v := _) rfl (by decide) (by kernel_rfl) (by kernel_rfl) (by kernel_rfl) (by kernel_rfl) (by kernel_rfl) (fun _ _ _ h => h) (yieldsIf_load_mid (by rfl) _ _ rfl H 0 rfl (u32v X) _ ((fun _ h => h.2.1)) (Try.underlying64) (rfl) (by rw [lX.out]; kernel_rfl)) hHeld ?_
                try simp only [Act.put, List.setIfInBounds_toArray, List.set_cons_zero, List.set_cons_succ]
                refine c_read (i := 1) (oi := ⟨(some 63), _, _, _, _, _⟩) (v := _) rfl (by decide) (by kernel_rfl) (by kernel_rfl) (by kernel_rfl) (by kernel_rfl) (by kernel_rfl) (fun _ _ _ h => h) (yieldsIf_load_mid (by rfl) _ _ rfl M 0 rfl (u32v mm) _ ((fun _ h => h.2.2.1)) (Try.underlying64) (rfl) (by rw [lM.out]; kernel_rfl)) hHeld ?_
                try simp only [Act.put, List.setIfInBounds_toArray, List.set_cons_zero, List.set_cons_succ]
                refine c_read (i := 3) (oi := ⟨(some 65), _, _, _, _, _⟩) (v := _) rfl (by decide) (by kernel_rfl) (by kernel_rfl) (by kernel_rfl) (by kernel_rfl) (by kernel_rfl) (fun _ _ _ h => h) (yieldsIf_load_mid (by rfl) _ _ rfl P 0 rfl (u32v rr) _ ((fun _ h => h.2.2.2)) (Try.underlying64) (rfl) (by rw [lP.out]; kernel_rfl)) hHeld ?_
                try simp only [Act.put, List.setIfInBounds_toArray, List.set_cons_zero, List.set_cons_succ]
                refine c_step (i := 2) (o := ⟨(some 64), _, _, _, _, _⟩) (by kernel_rfl) rfl (fun K hK => ?_)
                go_simp
                refine (rplus_any _ X mm HX.out.1 HMM.out.1 HX.out.2.1 HMM.out.2.1).mono ?_
                rintro e w8 ⟨Yp, rfl, hYl, hY, hb8⟩
                have hb8' : Below U2.heap.size U2 w8 := below_undrew hb8
                refine hK.out _ _ (⟨hb8', range_below rX.out hHU hb8', range_below rM.out hM2 hb8', range_below rP.out hPU hb8'⟩) (fun hHeld => ?_)
                clear hK K
                try simp only [Act.put, List.setIfInBounds_toArray, List.set_cons_zero, List.set_cons_succ]
                refine c_step (i := 4) (o := ⟨(some 66), _, _, _, _, _⟩) (by kernel_rfl) rfl (fun K hK => ?_)
                go_simp
                refine (rtimes_any w8 Yp rr hYl.out HRR.out.1 (natAt_all (fun k hk => by rw [hYl.out] at hk; rcases Nat.lt_or_ge k 16 with h | h; exact Nat.lt_trans (hY.out.1 k h) (by decide); rw [show k = 16 by omega]; exact Nat.lt_trans hY.out.2.1 (by decide))) (fun x hx => Nat.lt_trans (HRR.out.2.1 x hx) (by decide))).mono ?_
                rintro e w9 ⟨T, rfl, hTl, hT, hb9⟩
                have hb9' : Below U2.heap.size U2 w9 := below_next hb8' hb8'.size hb9
                refine hK.out _ _ (⟨hb9', range_below rX.out hHU hb9', range_below rM.out hM2 hb9', range_below rP.out hPU hb9'⟩) (fun hHeld => ?_)
                clear hK K
                try simp only [Act.put, List.setIfInBounds_toArray, List.set_cons_zero, List.set_cons_succ]
                have hX9 : Hid (w9.heap[H]? = some (.cells (u32v X).toArray 64 (0, 0))) := (hb9'.block _ hHU).trans hX2.out
                have HTS := Lib.hid (show (u32v T).toArray.size = 17 by simp [u32v_len, hTl.out])
                refine c_call (S' := (fun _ => True)) (o := ⟨none, _, _, _, _, _⟩) (by kernel_rfl) (by kernel_rfl) rfl (fun K hK => ?_)
                clear hHeld
                refine step_store_row rfl 64 (.tmp 9) (.tmp 66) rfl H (u32v T).toArray (by rfl) (by rfl) 64 _ hX9.out (by rw [HTS.out]; kernel_rfl) (by rw [HTS.out]; exact lXS.out) (all_oneCell_toArray (u32v_one _)) ?_
                refine hK.out _ _ (trivial) (fun hHeld => ?_)
                clear hK K
                try simp only [Act.put]
                refine wpAnyH_done (by kernel_rfl) ?_ _
                have hfin : Hid ((w9.setRow H (u32v T).toArray).heap[H]? = some (.cells (u32v T).toArray 64 (0, 0))) := setRow_heap _ _ _ _ _ _ hX9.out
                have hbfin : But H V (w9.setRow H (u32v T).toArray) := ((hbt.trans (But.of_below hbU2 (Nat.le_refl _))).trans (But.of_below hb9' (Nat.le_refl _))).row _
                have HNX := vlt (show T.length = 17 ∧ (∀ x ∈ T, x < 256) ∧ lvN T % PP = accR (rOf key) b (k + 1) from ⟨hTl.out, natAt_all (fun k hk => hT.out.1 k (by rw [hTl.out] at hk; exact hk)),
                  acc_next (rOf key) b k (lvN X) (lvN mm) (lvN Yp) (lvN T) (lvN rr) HX.out.2.2 (by rw [← HBLK.out]; exact HMM.out.2.2) hY.out.2.2 HRR.out.2.2 hT.out.2.2⟩)
                clear hX9 hX2 hY hT rX rM rP hb8' hb9'
                generalize w9.setRow H (u32v T).toArray = w10 at *
                go_wp2
                exact ⟨⟨k + 1, T, by omega, by go_num, hfin, HNX, hbfin⟩, by simp [intOf]; omega⟩
        · have hli : ¬ 16 * (k : Int) < (n : Int) := by omega
          have HXV := vlt (show lvN X % PP = polyOf (rOf key) b by rw [HX.out.2.2, polyOf, HL.out, show k = (n + 15) / 16 by omega])
          have hgKY : Hid (Y0.heap[w.heap.size]? = some (.cells (bv key).toArray 24 (0, 0))) := (hbt.block _ (by omega) (by intro e; injection e; omega)).trans hgK7.out
          have hgZY : Hid (Y0.heap[w.heap.size + 1]? = some (.cells (bv z16).toArray 45 (0, 0))) := (hbt.block _ (by omega) (by intro e; injection e; omega)).trans hgZ7.out
          have hbwY : Below w.heap.size w Y0 := But.below hbw7 hbt (by omega) hbw7.size
          have hleast := rleast_any Y0 X HX.out.1 HX.out.2.1
          have HXS := Lib.hid (show (u32v X).toArray.size = 17 by simp [u32v_len, HX.out.1])
          clear hgK7 hgZ7 hbw7 hbt7 hbt hbtY hgP7 HX hgPY
          go_wp2_with (with_reducible refine wpList_load_row rfl 64 (.tmp 9) rfl H rfl 64 (u32v X).toArray (0, 0) _ hgX.out Try.underlying64 rfl (by rw [HXS.out]; kernel_rfl) ?_)
          refine hleast.mono ?_
          rintro e v1 ⟨L, rfl, hLl, hL, hc1⟩
          have HLV := vlt (show (∀ x ∈ L, x < 256) ∧ lvN L = polyOf (rOf key) b from ⟨natAt_all (fun k hk => hL.out.1 k (by rw [hLl.out] at hk; exact hk)), by rw [hL.out.2, HXV.out]⟩)
          have gX1 : Hid (v1.heap[H]? = some (.cells (u32v X).toArray 64 (0, 0))) := (hc1.block _ hHY).trans hgX.out
          have gK1 : Hid (v1.heap[w.heap.size]? = some (.cells (bv key).toArray 24 (0, 0))) := (hc1.block _ (by omega)).trans hgKY.out
          have gZ1 : Hid (v1.heap[w.heap.size + 1]? = some (.cells (bv z16).toArray 45 (0, 0))) := (hc1.block _ (by omega)).trans hgZY.out
          have bw1 := below_next hbwY hbwY.size hc1
          have s1 : H < v1.heap.size := by have := hc1.size; omega
          have HLS := Lib.hid (show (u32v L).toArray.size = 17 by simp [u32v_len, hLl.out])
          clear hleast hgX hgKY hgZY hbwY hc1 hL HXV
          go_upto_region 24 with (with_reducible refine wpList_store_row rfl 64 (.tmp 9) (.tmp 68) rfl H (u32v L).toArray rfl rfl 64 _ gX1.out (by rw [HLS.out]; kernel_rfl) (by rw [HLS.out]; exact HXS.out) (all_oneCell_toArray (u32v_one _)) ?_)
          have gL2 : Hid ((v1.setRow H (u32v L).toArray).heap[H]? = some (.cells (u32v L).toArray 64 (0, 0))) := setRow_heap _ _ _ _ _ _ gX1.out
          have gK2 : Hid ((v1.setRow H (u32v L).toArray).heap[w.heap.size]? = some (.cells (bv key).toArray 24 (0, 0))) := (setRow_other _ _ _ _ (by omega)).trans gK1.out
          have gZ2 : Hid ((v1.setRow H (u32v L).toArray).heap[w.heap.size + 1]? = some (.cells (bv z16).toArray 45 (0, 0))) := (setRow_other _ _ _ _ (by omega)).trans gZ1.out
          have bw2 : Below w.heap.size w (v1.setRow H (u32v L).toArray) := below_setRow bw1 (by omega) _
          have s2 : H < (v1.setRow H (u32v L).toArray).heap.size := by simp [World.setRow]; omega
          generalize v1.setRow H (u32v L).toArray = v2 at *
          clear gX1 gK1 gZ1 bw1 s1 HXS
          go_upto_region 25 with fail
          have gS3 : Hid ((v2.alloc (.cells (u32v z17).toArray 64)).heap[v2.heap.size]? = some (.cells (u32v (uptoW 17 (natsOf ((key.drop 16).take 0)))).toArray 64 (0, 0))) := heap_alloc_new _ _
          have c3 : Below v2.heap.size v2 (v2.alloc (.cells (u32v z17).toArray 64)) := (Below.refl _ _).alloc (Nat.le_refl _) _
          have s3 : v2.heap.size < (v2.alloc (.cells (u32v z17).toArray 64)).heap.size := by simp
          generalize v2.alloc (.cells (u32v z17).toArray 64) = v3 at *
          have gL3 : Hid (v3.heap[H]? = some (.cells (u32v L).toArray 64 (0, 0))) := (c3.block _ s2).trans gL2.out
          have gK3 : Hid (v3.heap[w.heap.size]? = some (.cells (bv key).toArray 24 (0, 0))) := (c3.block _ (by omega)).trans gK2.out
          have gZ3 : Hid (v3.heap[w.heap.size + 1]? = some (.cells (bv z16).toArray 45 (0, 0))) := (c3.block _ (by omega)).trans gZ2.out
          have bw3 := below_next bw2 bw2.size c3
          obtain ⟨Sb, hSb⟩ : ∃ Sb, Sb = v2.heap.size := ⟨_, rfl⟩
          have hHS : H < Sb := by omega
          rw [← hSb] at gS3 s3 ⊢
          have hk3 := Lib.hid (show (key.drop 16).length = 16 by simp [HK.out])
          clear hSb gL2 gK2 gZ2 bw2 c3 s2 hli hHY hYs
          generalize decide (16 * (k : Int) < (n : Int)) = dx
          go_wp2_with fail
          go_loopw [15] (fun i wr => ∃ k : Nat, k ≤ 16 ∧ i = .int .i64 (k : Int) ∧ Hid (wr.heap[Sb]? = some (.cells (u32v (uptoW 17 (natsOf ((key.drop 16).take k)))).toArray 64 (0, 0))) ∧ But Sb v3 wr) (fun i _ => 16 - (intOf i).toNat)
          case atStart => exact ⟨0, by omega, rfl, gS3, But.refl _ _⟩
          case round =>
            clear gS3
            obtain ⟨q, hq, rfl, hg, hbt⟩ := hrel
            by_cases hlt2 : q < 16
            · have hi16 : (q : Int) < 16 := by omega
              have gKr : Hid (wr.heap[w.heap.size]? = some (.cells (bv key).toArray 24 (0, 0))) := (hbt.block _ (by omega) (by intro e; injection e; omega)).trans gK3.out
              have c0 := byteAt_cell gKr.out (16 + q) (by rw [HK.out]; omega)
              have hlen : (uptoW 17 (natsOf ((key.drop 16).take q))).length = 17 := uptoW_len 17 _ (by rw [natsOf_len, List.length_take]; omega)
              have c1 := word_at hg.out q (by rw [hlen]; omega)
              have f0 : wr.frozen? ⟨Sb, q, none⟩ = false := frozen_of_row _ _ _ _ _ hg.out
              have hset := world_set_cell hg.out q (.int .u32 (((byteAt key (16 + q)).toNat : Nat) : Int))
              rw [u32v_set, fill_nats (key.drop 16) q (byteAt key (16 + q)) (by rw [List.getElem?_drop]; simp [byteAt, List.getElem?_eq_getElem (show 16 + q < key.length by rw [HK.out]; omega)]) (by rw [hk3.out]; exact Nat.le_refl _)] at hset
              have hb2 := hbt.set (i := q) (.int .u32 (((byteAt key (16 + q)).toNat : Nat) : Int))
              have lx := (byteAt key (16 + q)).toNat_lt
              clear hlen gKr
              generalize (byteAt key (16 + q)).toNat = x at *
              generalize natAt (uptoW 17 (natsOf ((key.drop 16).take q))) q = z at *
              go_wp2
              exact ⟨⟨q + 1, by omega, by go_num, hset, hb2⟩, by simp [intOf]; omega⟩
            · obtain ⟨ss, hss⟩ : ∃ ss, ss = uptoW 17 (natsOf (key.drop 16)) := ⟨_, rfl⟩
              have gSr : Hid (wr.heap[Sb]? = some (.cells (u32v ss).toArray 64 (0, 0))) := by
                have h1 := hg.out
                rw [List.take_of_length_le (by rw [hk3.out]; omega), ← hss] at h1
                exact h1
              have HSS := vlt (show ss.length = 17 ∧ (∀ x ∈ ss, x < 256) ∧ lvN ss = ln (key.drop 16) by
                refine ⟨by rw [hss]; exact uptoW_len 17 _ (by rw [natsOf_len, hk3.out]; decide), by rw [hss]; exact upto_lt 17 _ (nats_lt _), by rw [hss, lvN_upto, lvN_nats]⟩)
              have HSV := Lib.hid (show (u32v ss).toArray.size = 17 by simp [u32v_len, HSS.out.1])
              have gLr : Hid (wr.heap[H]? = some (.cells (u32v L).toArray 64 (0, 0))) := (hbt.block _ (by omega) (by intro e; injection e; omega)).trans gL3.out
              have gZr : Hid (wr.heap[w.heap.size + 1]? = some (.cells (bv z16).toArray 45 (0, 0))) := (hbt.block _ (by omega) (by intro e; injection e; omega)).trans gZ3.out
              have bwr : Below w.heap.size w wr := But.below bw3 hbt (by omega) bw3.size
              have sr : Sb < wr.heap.size := (Array.getElem?_eq_some_iff.1 gSr.out).1
              have hi16 : ¬ (q : Int) < 16 := by omega
              have hplus := rplus_any wr L ss hLl.out HSS.out.1 HLV.out.1 HSS.out.2.1
              clear hss hg gK3 gZ3 gL3 bw3 hbt s3
              go_wp2_with (first
                | (with_reducible refine wpList_load_row rfl 64 (.tmp 9) rfl H rfl 64 (u32v L).toArray (0, 0) _ gLr.out Try.underlying64 rfl (by rw [HLS.out]; kernel_rfl) ?_)
                | (with_reducible refine wpList_load_row rfl 64 (.tmp 14) rfl Sb rfl 64 (u32v ss).toArray (0, 0) _ gSr.out Try.underlying64 rfl (by rw [HSV.out]; kernel_rfl) ?_))
              refine hplus.mono ?_
              rintro e v5 ⟨E, rfl, hEl, hE, c5⟩
              obtain ⟨out, hout⟩ : ∃ out, out = tagOf key b := ⟨_, rfl⟩
              have HOUT := vlt hout
              have HEND := vlt (show bytesOf (E.take 16) = out from (tag_end key b E (lvN L) (lvN ss) hEl.out hE.out.1 hE.out.2.2 HLV.out.2 HSS.out.2.2).trans hout.symm)
              have HEL := vlt (show ∀ j, j < 16 → natAt E j < 256 from hE.out.1)
              have HOS := Lib.hid (show (bv out).toArray.size = 16 by simp [bv_len, hout, tagOf_len])
              have gL5 : Hid (v5.heap[H]? = some (.cells (u32v L).toArray 64 (0, 0))) := (c5.block _ (by omega)).trans gLr.out
              have gZ5 : Hid (v5.heap[w.heap.size + 1]? = some (.cells (bv z16).toArray 45 (0, 0))) := (c5.block _ (by omega)).trans gZr.out
              have bw5 := below_next bwr bwr.size c5
              have s5 : H < v5.heap.size := by have := c5.size; omega
              have HES := Lib.hid (show (u32v E).toArray.size = 17 by simp [u32v_len, hEl.out])
              clear hplus gLr gSr gZr bwr c5 sr hout hE HSS HLV
              go_upto_region 30 with (with_reducible refine wpList_store_row rfl 64 (.tmp 9) (.tmp 82) rfl H (u32v E).toArray rfl rfl 64 _ gL5.out (by rw [HES.out]; kernel_rfl) (by rw [HES.out]; exact HLS.out) (all_oneCell_toArray (u32v_one _)) ?_)
              have gE6 : Hid ((v5.setRow H (u32v E).toArray).heap[H]? = some (.cells (u32v E).toArray 64 (0, 0))) := setRow_heap _ _ _ _ _ _ gL5.out
              have gZ6 : Hid ((v5.setRow H (u32v E).toArray).heap[w.heap.size + 1]? = some (.cells (bv z16).toArray 45 (0, 0))) := (setRow_other _ _ _ _ (by omega)).trans gZ5.out
              have bw6 : Below w.heap.size w (v5.setRow H (u32v E).toArray) := below_setRow bw5 (by omega) _
              have s6 : H < (v5.setRow H (u32v E).toArray).heap.size := by simp [World.setRow]; omega
              generalize v5.setRow H (u32v E).toArray = v6 at *
              clear gL5 gZ5 bw5 s5 HLS
              go_upto_region 31 with (first
                | (with_reducible refine wpList_build_to rfl 45 _ rfl [] (by rfl) _ built_half ?_)
                | ((with_reducible refine wpList_store_row rfl 45 (.tmp 16) (.tmp 83) rfl v6.heap.size (bv z16).toArray rfl rfl 45 _ (heap_alloc_new _ _) (by rw [HZ16.out]; kernel_rfl) (by rw [HZ16.out]) (all_oneCell_toArray (bv_one _)) ?_); rw [World.setRow_alloc_new]))
              have gT7 : Hid ((v6.alloc (.cells (bv z16).toArray 45)).heap[v6.heap.size]? = some (.cells (bv (uptoB 16 (bytesOf (E.take 0)))).toArray 45 (0, 0))) := heap_alloc_new _ _
              have c7 : Below v6.heap.size v6 (v6.alloc (.cells (bv z16).toArray 45)) := (Below.refl _ _).alloc (Nat.le_refl _) _
              generalize v6.alloc (.cells (bv z16).toArray 45) = v7 at *
              have gE7 : Hid (v7.heap[H]? = some (.cells (u32v E).toArray 64 (0, 0))) := (c7.block _ s6).trans gE6.out
              have gZ7 : Hid (v7.heap[w.heap.size + 1]? = some (.cells (bv z16).toArray 45 (0, 0))) := (c7.block _ (by omega)).trans gZ6.out
              have bw7 := below_next bw6 bw6.size c7
              have s7 : H < v7.heap.size := by have := c7.size; omega
              obtain ⟨Tb, hTb⟩ : ∃ Tb, Tb = v6.heap.size := ⟨_, rfl⟩
              have hHT : H < Tb := by omega
              rw [← hTb] at gT7 ⊢
              clear hTb gE6 gZ6 bw6 c7 s6
              generalize decide ((q : Int) < 16) = dy
              go_wp2_with fail
              go_loopw [17] (fun i wr => ∃ k : Nat, k ≤ 16 ∧ i = .int .i64 (k : Int) ∧ Hid (wr.heap[Tb]? = some (.cells (bv (uptoB 16 (bytesOf (E.take k)))).toArray 45 (0, 0))) ∧ But Tb v7 wr) (fun i _ => 16 - (intOf i).toNat)
              case atStart => exact ⟨0, by omega, rfl, gT7, But.refl _ _⟩
              case round =>
                clear gT7
                obtain ⟨p, hp, rfl, hg, hbt⟩ := hrel
                by_cases hlt3 : p < 16
                · have hi16 : (p : Int) < 16 := by omega
                  have hi17 : (p : Int) < 17 := by omega
                  have gEr : Hid (wr.heap[H]? = some (.cells (u32v E).toArray 64 (0, 0))) := (hbt.block _ (by omega) (by intro e; injection e; omega)).trans gE7.out
                  have c0 := word_at gEr.out p (by rw [hEl.out]; omega)
                  have lx := HEL.out p hlt3
                  have hlen : (uptoB 16 (bytesOf (E.take p))).length = 16 := uptoB_len 16 _ (by simp [bytesOf]; omega)
                  have c1 := byteAt_cell hg.out p (by rw [hlen]; exact hlt3)
                  have f0 : wr.frozen? ⟨Tb, p, none⟩ = false := frozen_of_row _ _ _ _ _ hg.out
                  have hset := world_set_cell hg.out p (.int .u8 (((UInt8.ofNat (natAt E p)).toNat : Nat) : Int))
                  rw [bv_set, fill_bytes E p hlt3 hEl.out, UInt8.toNat_ofNat', Nat.mod_eq_of_lt lx] at hset
                  have hb2 := hbt.set (i := p) (.int .u8 ((natAt E p : Nat) : Int))
                  clear hlen gEr
                  generalize natAt E p = x at *
                  generalize (byteAt (uptoB 16 (bytesOf (E.take p))) p).toNat = z at *
                  go_wp2
                  exact ⟨⟨p + 1, by omega, by go_num, hset, hb2⟩, by simp [intOf]; omega⟩
                · have hi16 : ¬ (p : Int) < 16 := by omega
                  have gT8 : Hid (wr.heap[Tb]? = some (.cells (bv out).toArray 45 (0, 0))) := by
                    have h1 := hg.out
                    rw [show p = 16 by omega, HEND.out, uptoB_all 16 out (by have := HOS.out; simpa [bv_len] using this)] at h1
                    exact h1
                  have gZ8 : Hid (wr.heap[w.heap.size + 1]? = some (.cells (bv z16).toArray 45 (0, 0))) := (hbt.block _ (by omega) (by intro e; injection e; omega)).trans gZ7.out
                  have bw8 : Below w.heap.size w wr := But.below bw7 hbt (by omega) bw7.size
                  clear hg
                  go_wp2_with (first
                    | (with_reducible refine wpList_load_row rfl 45 (.tmp 16) rfl Tb rfl 45 (bv out).toArray (0, 0) _ gT8.out Try.underlying45 rfl (by rw [HOS.out]; kernel_rfl) ?_)
                    | (with_reducible refine wpList_store_row rfl 45 (.tmp 4) (.tmp 94) rfl (w.heap.size + 1) (bv out).toArray rfl rfl 45 _ gZ8.out (by rw [HOS.out]; kernel_rfl) (by rw [HOS.out]; exact HZ16.out) (all_oneCell_toArray (bv_one _)) ?_))
                  refine bodyPost_ret (v := .agg (bv out).toArray) (results_cell_row Try.results23 _ _ (w.heap.size + 1) 45 _ (0, 0) _ rfl (setRow_heap _ _ _ _ _ _ gZ8.out) Try.underlying45 rfl (by rw [HOS.out]; kernel_rfl)) rfl ⟨by rw [HOUT.out], below_setRow bw8 (by omega) _⟩
end Go.Proofs.Ytkeejkhapmcanaa
