/-
  The walk of OctetSays: the law's Go text returns true, and nothing that was there is changed. Conditions: none.
-/
import Derived.Test.YtkiphhabciedjaaLawA
import Derived.Test.YtkiphhabciedjaaReg
import Derived.Test.YtkiphhabciedjaaRefA
import Derived.Test.YtkiphhabciedjaaRefB
import Derived.Test.YtkiphhabciedjaaRefC
import Derived.Test.YtkiphhabciedjaaRefD
import Derived.Deep.DeepCutAuto
namespace Go.Proofs.Ytkiphhabciedjaa
open Go.RowKit

/-- What reading up to eight bytes gives: the number, the error, whether it is one. -/
def rdV (f : List UInt8 → Nat) (l : List UInt8) (n : Nat) : Nat := if n ≤ 8 then f l else 0
def rdE (n : Nat) : Int := if n ≤ 8 then 0 else 1
def rdO (n : Nat) : Bool := decide (n ≤ 8)
theorem rd_eq (n : Nat) : (rdE n == 0) = rdO n := by unfold rdE rdO; split <;> simp [*]
theorem rd_ne (n : Nat) : (rdE n != 1) = rdO n := by unfold rdE rdO; split <;> simp [*]
/-- The same of digits. -/
def unL (s : List UInt8) : List UInt8 := (unhex s).getD []
def unE (s : List UInt8) : Int := if (unhex s).isSome then 0 else 3
def unO (s : List UInt8) : Bool := (unhex s).isSome
theorem un_eq (s : List UInt8) : (unE s == 0) = unO s := by unfold unE unO; split <;> simp [*]
theorem un_ne (s : List UInt8) : (unE s != 3) = unO s := by unfold unE unO; split <;> simp [*]

theorem fromBig_all (A : Option Addr) (l : List UInt8) (n c : Nat) (w : World) (ha : Byt w w.heap.size A l) (hl : l.length = n) :
    Calls Try.prog 10 #[.slice A n c] w fun e w' => e = .returned (.tuple #[.int .u64 (rdV bn l n : Int), .int .i64 (rdE n)]) ∧ w = w' := by
  by_cases h : n ≤ 8
  · rw [show rdV bn l n = bn l from if_pos h, show rdE n = 0 from if_pos h]; exact fromBig_ok A l n c w ha hl h
  · rw [show rdV bn l n = 0 from if_neg h, show rdE n = 1 from if_neg h]; exact fromBig_no A n c w (by omega)
theorem refFromBig_all (A : Option Addr) (l : List UInt8) (n c : Nat) (w : World) (ha : Byt w w.heap.size A l) (hl : l.length = n) :
    Calls Try.prog 16 #[.slice A n c] w fun e w' => e = .returned (.tuple #[.int .u64 (rdV bn l n : Int), .bool (rdO n)]) ∧ w = w' := by
  by_cases h : n ≤ 8
  · rw [show rdV bn l n = bn l from if_pos h, show rdO n = true from decide_eq_true h]; exact refFromBig_ok A l n c w ha hl h
  · rw [show rdV bn l n = 0 from if_neg h, show rdO n = false from decide_eq_false h]; exact refFromBig_no A n c w (by omega)
theorem fromLittle_all (A : Option Addr) (l : List UInt8) (n c : Nat) (w : World) (ha : Byt w w.heap.size A l) (hl : l.length = n) :
    Calls Try.prog 11 #[.slice A n c] w fun e w' => e = .returned (.tuple #[.int .u64 (rdV ln l n : Int), .int .i64 (rdE n)]) ∧ w = w' := by
  by_cases h : n ≤ 8
  · rw [show rdV ln l n = ln l from if_pos h, show rdE n = 0 from if_pos h]; exact fromLittle_ok A l n c w ha hl h
  · rw [show rdV ln l n = 0 from if_neg h, show rdE n = 1 from if_neg h]; exact fromLittle_no A n c w (by omega)
theorem refFromLittle_all (A : Option Addr) (l : List UInt8) (n c : Nat) (w : World) (ha : Byt w w.heap.size A l) (hl : l.length = n) (hn : n ≤ 70368744177664) :
    Calls Try.prog 17 #[.slice A n c] w fun e w' => e = .returned (.tuple #[.int .u64 (rdV ln l n : Int), .bool (rdO n)]) ∧ Below w.heap.size w w' := by
  by_cases h : n ≤ 8
  · rw [show rdV ln l n = ln l from if_pos h, show rdO n = true from decide_eq_true h]; exact refFromLittle_ok A l n c w ha hl h
  · rw [show rdV ln l n = 0 from if_neg h, show rdO n = false from decide_eq_false h]; exact refFromLittle_no A l n c w ha hl hn (by omega)
theorem unhex_all (s : ByteArray) (w : World) (hs : s.size ≤ 140737488355328) :
    Calls Try.prog 9 #[.string s] w fun e w' => ∃ A' n' c', e = .returned (.tuple #[.slice A' n' c', .int .i64 (unE s.data.toList)]) ∧ Res w' w.heap.size 5 A' n' c' (unL s.data.toList) ∧ Below w.heap.size w w' := by
  cases h : unhex s.data.toList with
  | some l =>
    refine (unhex_ok s l w hs h).mono fun e w' ⟨A', c', he, hr, hb⟩ => ⟨A', l.length, c', ?_, ?_, hb⟩
    · rw [he, show unE s.data.toList = 0 from by unfold unE; rw [h]; rfl]
    · rw [show unL s.data.toList = l from by unfold unL; rw [h]; rfl]; exact hr
  | none =>
    refine (unhex_no s w hs h).mono fun e w' ⟨he, hb⟩ => ⟨none, 0, 0, ?_, ?_, hb⟩
    · rw [he, show unE s.data.toList = 3 from by unfold unE; rw [h]; rfl]
    · rw [show unL s.data.toList = [] from by unfold unL; rw [h]; rfl]; exact World.ownsRow_nil _ _ _ _
theorem refUnhex_all (s : ByteArray) (w : World) (hs : s.size ≤ 140737488355328) :
    Calls Try.prog 18 #[.string s] w fun e w' => ∃ A' n' c', e = .returned (.tuple #[.slice A' n' c', .bool (unO s.data.toList)]) ∧ Res w' w.heap.size 5 A' n' c' (unL s.data.toList) ∧ Below w.heap.size w w' := by
  cases h : unhex s.data.toList with
  | some l =>
    refine (refUnhex_ok s l w hs h).mono fun e w' ⟨A', c', he, hr, hb⟩ => ⟨A', l.length, c', ?_, ?_, hb⟩
    · rw [he, show unO s.data.toList = true from by unfold unO; rw [h]; rfl]
    · rw [show unL s.data.toList = l from by unfold unL; rw [h]; rfl]; exact hr
  | none =>
    refine (refUnhex_no s w hs h).mono fun e w' ⟨he, hb⟩ => ⟨none, 0, 0, ?_, ?_, hb⟩
    · rw [he, show unO s.data.toList = false from by unfold unO; rw [h]; rfl]
    · rw [show unL s.data.toList = [] from by unfold unL; rw [h]; rfl]; exact World.ownsRow_nil _ _ _ _

set_option maxRecDepth 100000 in
theorem says_early (w : World) (A : Option Addr) (n c : Nat) (D : Option Addr) (p d : Nat) (v : Nat) (k : Int) (s : ByteArray) (hs : 60 < n ∨ (n ≤ 60 ∧ 60 < p) ∨ (n ≤ 60 ∧ p ≤ 60 ∧ 100 < s.size)) :
    Calls Try.prog 4 #[.slice A n c, .slice D p d, .int .u64 (v : Int), .int .i64 k, .string s] w fun e w' => e = .returned (.bool true) ∧ Below w.heap.size w w' := by
  rcases hs with h | ⟨h, h2⟩ | ⟨h, h2, h3⟩
  all_goals
    go_enter Try.func4, Try.ntmps4
    go_wp2_with fail
    refine (awake_any _).mono ?_
    rintro e w1 ⟨rfl, hb1⟩
    go_wp2
    go_ret
    exact ⟨rfl, hb1⟩

set_option maxRecDepth 100000 in
set_option maxHeartbeats 4000000 in
theorem says_main (w : World) (A : Option Addr) (l : List UInt8) (n c : Nat) (ha : Byt w w.heap.size A l) (hl : l.length = n) (D : Option Addr) (m : List UInt8) (p d : Nat) (hd : Byt w w.heap.size D m) (hm : m.length = p)
    (v : Nat) (hv : v < 18446744073709551616) (k : Int) (s : ByteArray) (h60 : n ≤ 60) (p60 : p ≤ 60) (s100 : s.size ≤ 100) :
    Calls Try.prog 4 #[.slice A n c, .slice D p d, .int .u64 (v : Int), .int .i64 k, .string s] w fun e w' => e = .returned (.bool true) ∧ Below w.heap.size w w' := by
  have HV := Lib.hid hv
  have HL := Lib.hid hl
  have HM := Lib.hid hm
  clear hv hl hm
  go_enter Try.func4, Try.ntmps4
  go_wp2_with fail
  refine (awake_any _).mono ?_
  rintro e w1 ⟨rfl, hb1⟩
  have hz1 := hb1.size
  have ha1 := (ha.below hb1).up hz1
  have hd1 := (hd.below hb1).up hz1
  clear ha hd
  go_wp2_with fail
  refine (fromBig_all A l n c _ ha1 HL.out).mono ?_
  rintro e w' ⟨rfl, rfl⟩
  go_wp2_with fail
  refine (refFromBig_all A l n c _ ha1 HL.out).mono ?_
  rintro e w' ⟨rfl, rfl⟩
  go_wp2_with fail
  refine (fromLittle_all D m p d _ hd1 HM.out).mono ?_
  rintro e w' ⟨rfl, rfl⟩
  go_wp2_with fail
  refine (refFromLittle_all D m p d _ hd1 HM.out (by omega)).mono ?_
  rintro e w2 ⟨rfl, hc2⟩
  have hb2 := below_next hb1 hz1 hc2
  have hz2 := hb2.size
  have ha2 := (ha1.below hc2).up hc2.size
  have hd2 := (hd1.below hc2).up hc2.size
  clear hb1 hz1 ha1 hd1 hc2
  go_wp2_with fail
  refine (unhex_all s _ (by omega)).mono ?_
  rintro e w3 ⟨A3, n3, c3, rfl, hr3, hc3⟩
  have hb3 := below_next hb2 hz2 hc3
  have hz3 := hb3.size
  have ha3 := (ha2.below hc3).up hc3.size
  have hd3 := (hd2.below hc3).up hc3.size
  clear hb2 hz2 ha2 hd2 hc3
  go_wp2_with fail
  refine (refUnhex_all s _ (by omega)).mono ?_
  rintro e w4 ⟨A4, n4, c4, rfl, hr4, hc4⟩
  have hb4 := below_next hb3 hz3 hc4
  have ha4 := (ha3.below hc4).up hc4.size
  have hd4 := (hd3.below hc4).up hc4.size
  have hs3 := hr3.keep hc4
  have k3 := conv_bytes (P := Try.prog) Try.underlying23 Try.underlying5 Try.underlying9 hs3.byt n3 c3 hs3.len
  have k4 := conv_bytes (P := Try.prog) Try.underlying23 Try.underlying5 Try.underlying9 hr4.byt n4 c4 hr4.len
  clear hb3 hz3 ha3 hd3 hc4 hr3 hs3 hr4
  have q1 := rd_eq n
  have q2 := rd_ne n
  have q3 := rd_eq p
  have q4 := rd_ne p
  have q5 := un_eq s.data.toList
  have q6 := un_ne s.data.toList
  go_upto_region 11 with (fail)
  go_cut [14, 18, 22, 43, 45, 47, 53, 55, 57, 63, 65, 67, 124] (fun _ _ _ _ _ _ _ _ _ _ _ _ t wx => t = .bool false ∧ wx = w4)
  case first =>
    go_wp2_with fail
    all_goals go_meet
    all_goals first | exact ⟨rfl, rfl⟩ | (refine ⟨?_, rfl⟩; simp [*])
  case rest =>
    obtain ⟨rfl, rfl⟩ := hcut
    clear q1 q2 q3 q4 q5 q6 k3 k4
    have hj := wd_le k
    have q0 : ∀ x y : List UInt8, (x == y) = decide (x = y) := fun x y => by rw [Bool.eq_iff_iff]; simp
    generalize hjd : wd k = j at *
    have HJ := Lib.hid hjd
    clear hjd
    have HB := Lib.hid hb4
    clear hb4
    have hW : Below wc.heap.size wc wc := Below.refl _ _
    have a0 := ha4
    have d0 := hd4
    have t0 := HB.out
    clear ha4 hd4 HB
    obtain ⟨mm, hmm⟩ : ∃ mm, (mm = n ∧ n ≤ p) ∨ (mm = p ∧ p < n) := by
      rcases Nat.lt_or_ge p n with h | h
      · exact ⟨p, .inr ⟨rfl, h⟩⟩
      · exact ⟨n, .inl ⟨rfl, h⟩⟩
    have HMM := Lib.hid hmm
    clear hmm
    go_wp2_with fail
    refine wp_region_held_drew (S := (fun W => Below wc.heap.size wc W)) (by kernel_rfl) (hW.drew) (fun hHeld => ?_)
    refine wpAnyH_take (i := 0) (oi := ⟨(some 125), _, _, _, _, _⟩) (v := ?vq1_0) rfl (by kernel_rfl) (by kernel_rfl) (by kernel_rfl) (fun _ _ _ h => h) (Or.inl ⟨by rfl, ?yq1_0⟩) hHeld ?_
    case yq1_0 => (intro W0 hSw; go_simp; try with_reducible rfl)
    try simp only [Act.put, List.setIfInBounds_toArray, List.set_cons_zero, List.set_cons_succ]
    refine wpAnyH_take (i := 1) (oi := ⟨(some 126), _, _, _, _, _⟩) (v := ?vq1_1) rfl (by kernel_rfl) (by kernel_rfl) (by kernel_rfl) (fun _ _ _ h => h) (Or.inl ⟨by rfl, ?yq1_1⟩) hHeld ?_
    case yq1_1 => (intro W0 hSw; go_simp; try with_reducible rfl)
    try simp only [Act.put, List.setIfInBounds_toArray, List.set_cons_zero, List.set_cons_succ]
    refine wpAnyH_take (i := 2) (oi := ⟨(some 127), _, _, _, _, _⟩) (v := ?vq1_2) rfl (by kernel_rfl) (by kernel_rfl) (by kernel_rfl) (fun _ _ _ h => h) (Or.inl ⟨by rfl, ?yq1_2⟩) hHeld ?_
    case yq1_2 => (intro W0 hSw; go_simp; try with_reducible rfl)
    try simp only [Act.put, List.setIfInBounds_toArray, List.set_cons_zero, List.set_cons_succ]
    refine wpAnyH_take (i := 5) (oi := ⟨(some 130), _, _, _, _, _⟩) (v := ?vq1_3) rfl (by kernel_rfl) (by kernel_rfl) (by kernel_rfl) (fun _ _ _ h => h) (Or.inl ⟨by rfl, ?yq1_3⟩) hHeld ?_
    case yq1_3 => (intro W0 hSw; go_simp; try with_reducible rfl)
    try simp only [Act.put, List.setIfInBounds_toArray, List.set_cons_zero, List.set_cons_succ]
    refine wpAnyH_take (i := 6) (oi := ⟨(some 131), _, _, _, _, _⟩) (v := ?vq1_4) rfl (by kernel_rfl) (by kernel_rfl) (by kernel_rfl) (fun _ _ _ h => h) (Or.inl ⟨by rfl, ?yq1_4⟩) hHeld ?_
    case yq1_4 => (intro W0 hSw; go_simp; try with_reducible rfl)
    try simp only [Act.put, List.setIfInBounds_toArray, List.set_cons_zero, List.set_cons_succ]
    refine wpAnyH_take (i := 7) (oi := ⟨(some 132), _, _, _, _, _⟩) (v := ?vq1_5) rfl (by kernel_rfl) (by kernel_rfl) (by kernel_rfl) (fun _ _ _ h => h) (Or.inl ⟨by rfl, ?yq1_5⟩) hHeld ?_
    case yq1_5 => (intro W0 hSw; go_simp; try with_reducible rfl)
    try simp only [Act.put, List.setIfInBounds_toArray, List.set_cons_zero, List.set_cons_succ]
    refine wpAnyH_ready (rs := [3]) (by kernel_rfl) (by simp) ?_
    refine AllReadyH.cons (i := 3) (o := ⟨(some 128), _, _, _, _, _⟩) rfl (fun K hK => ?_) AllReadyH.nil
    go_simp
    refine (big_any A l n c v k wc.drew a0.drew HL.out (by omega) HV.out).mono ?_
    rintro e x1 ⟨B1, e1, rfl, r1, b1'⟩
    rw [HJ.out] at r1
    rw [HJ.out]
    have b1 : Below wc.heap.size wc x1 := below_next hHeld (Nat.le_refl _) b1'
    refine hK.out _ _ (b1) (fun hHeld => ?_)
    clear hK K
    try simp only [Act.put, List.setIfInBounds_toArray, List.set_cons_zero, List.set_cons_succ]
    refine held_more (S' := fun W => Below x1.heap.size x1 W) (fun W h => below_next b1 b1.size h) _ _ _ _ ?_
    clear hHeld
    have hHeld : Below x1.heap.size x1 x1 := Below.refl _ _
    have a1 := (a0.below b1).up b1.size
    have d1 := (d0.below b1).up b1.size
    have t1 := below_next t0 t0.size b1
    clear a0 d0 t0 b1
    have v1 := fun W (h : Below x1.heap.size x1 W) => conv_bytes (P := Try.prog) Try.underlying23 Try.underlying5 Try.underlying9 (r1.byt.below h) (n + j) e1 r1.len
    refine wpAnyH_take (i := 4) (oi := ⟨(some 129), _, _, _, _, _⟩) (v := ?vq1_6) rfl (by kernel_rfl) (by kernel_rfl) (by kernel_rfl) (fun _ _ _ h => h) (Or.inl ⟨by rfl, ?yq1_6⟩) hHeld ?_
    case yq1_6 => (intro W0 hSw; go_simp; try with_reducible rfl)
    try simp only [Act.put, List.setIfInBounds_toArray, List.set_cons_zero, List.set_cons_succ]
    refine wpAnyH_ready (rs := [8]) (by kernel_rfl) (by simp) ?_
    refine AllReadyH.cons (i := 8) (o := ⟨(some 133), _, _, _, _, _⟩) rfl (fun K hK => ?_) AllReadyH.nil
    go_simp
    refine (refBig_any A l n c v k x1 a1 HL.out (by omega) HV.out).mono ?_
    rintro e x2 ⟨B2, e2, rfl, r2, b2⟩
    rw [HJ.out] at r2
    rw [HJ.out]
    refine hK.out _ _ (b2) (fun hHeld => ?_)
    clear hK K
    try simp only [Act.put, List.setIfInBounds_toArray, List.set_cons_zero, List.set_cons_succ]
    refine held_more (S' := fun W => Below x2.heap.size x2 W) (fun W h => below_next b2 b2.size h) _ _ _ _ ?_
    clear hHeld
    have hHeld : Below x2.heap.size x2 x2 := Below.refl _ _
    have a2 := (a1.below b2).up b2.size
    have d2 := (d1.below b2).up b2.size
    have t2 := below_next t1 t1.size b2
    clear a1 d1 t1 b2
    have v2 := fun W (h : Below x2.heap.size x2 W) => conv_bytes (P := Try.prog) Try.underlying23 Try.underlying5 Try.underlying9 (r2.byt.below h) (n + j) e2 r2.len
    refine wpAnyH_take (i := 9) (oi := ⟨(some 134), _, _, _, _, _⟩) (v := ?vq1_7) rfl (by kernel_rfl) (by kernel_rfl) (by kernel_rfl) (fun _ _ _ h => h) (Or.inl ⟨by rfl, ?yq1_7⟩) hHeld ?_
    case yq1_7 => (intro W0 hSw; go_simp; try with_reducible rfl)
    try simp only [Act.put, List.setIfInBounds_toArray, List.set_cons_zero, List.set_cons_succ]
    refine wpAnyH_take (i := 10) (oi := ⟨(some 135), _, _, _, _, _⟩) (v := ?vq1_8) rfl (by kernel_rfl) (by kernel_rfl) (by kernel_rfl) (fun _ _ _ h => h) (Or.inl ⟨by rfl, ?yq1_8⟩) hHeld ?_
    case yq1_8 => (intro W0 hSw; go_simp; try with_reducible rfl)
    try simp only [Act.put, List.setIfInBounds_toArray, List.set_cons_zero, List.set_cons_succ]
    refine wpAnyH_take (i := 11) (oi := ⟨(some 136), _, _, _, _, _⟩) (v := ?vq1_9) rfl (by kernel_rfl) (by kernel_rfl) (by kernel_rfl) (fun _ _ _ h => h) (Or.inl ⟨by rfl, ?yq1_9⟩) hHeld ?_
    case yq1_9 => (intro W0 hSw; go_simp; try with_reducible rfl)
    try simp only [Act.put, List.setIfInBounds_toArray, List.set_cons_zero, List.set_cons_succ]
    refine wpAnyH_take (i := 12) (oi := ⟨(some 137), _, _, _, _, _⟩) (v := ?vq1_10) rfl (by kernel_rfl) (by kernel_rfl) (by kernel_rfl) (fun _ _ _ h => h) (Or.inl ⟨by rfl, ?yq1_10⟩) hHeld ?_
    case yq1_10 => (intro W0 hSw; go_simp; try with_reducible rfl)
    try simp only [Act.put, List.setIfInBounds_toArray, List.set_cons_zero, List.set_cons_succ]
    refine wpAnyH_take (i := 13) (oi := ⟨(some 138), _, _, _, _, _⟩) (v := ?vq1_11) rfl (by kernel_rfl) (by kernel_rfl) (by kernel_rfl) (fun _ _ _ h => h) (Or.inl ⟨by rfl, ?yq1_11⟩) hHeld ?_
    case yq1_11 => (intro W0 hSw; go_simp; try with_reducible rfl)
    try simp only [Act.put, List.setIfInBounds_toArray, List.set_cons_zero, List.set_cons_succ]
    refine wpAnyH_take (i := 14) (oi := ⟨(some 139), _, _, _, _, _⟩) (v := ?vq1_12) rfl (by kernel_rfl) (by kernel_rfl) (by kernel_rfl) (fun _ _ _ h => h) (Or.inl ⟨by rfl, ?yq1_12⟩) hHeld ?_
    case yq1_12 => (intro W0 hSw; go_simp; try with_reducible rfl)
    try simp only [Act.put, List.setIfInBounds_toArray, List.set_cons_zero, List.set_cons_succ]
    refine wpAnyH_take (i := 17) (oi := ⟨(some 142), _, _, _, _, _⟩) (v := ?vq1_13) rfl (by kernel_rfl) (by kernel_rfl) (by kernel_rfl) (fun _ _ _ h => h) (Or.inl ⟨by rfl, ?yq1_13⟩) hHeld ?_
    case yq1_13 => (intro W0 hSw; go_simp; try with_reducible rfl)
    try simp only [Act.put, List.setIfInBounds_toArray, List.set_cons_zero, List.set_cons_succ]
    refine wpAnyH_take (i := 18) (oi := ⟨(some 143), _, _, _, _, _⟩) (v := ?vq1_14) rfl (by kernel_rfl) (by kernel_rfl) (by kernel_rfl) (fun _ _ _ h => h) (Or.inl ⟨by rfl, ?yq1_14⟩) hHeld ?_
    case yq1_14 => (intro W0 hSw; go_simp; try with_reducible rfl)
    try simp only [Act.put, List.setIfInBounds_toArray, List.set_cons_zero, List.set_cons_succ]
    refine wpAnyH_take (i := 19) (oi := ⟨(some 144), _, _, _, _, _⟩) (v := ?vq1_15) rfl (by kernel_rfl) (by kernel_rfl) (by kernel_rfl) (fun _ _ _ h => h) (Or.inl ⟨by rfl, ?yq1_15⟩) hHeld ?_
    case yq1_15 => (intro W0 hSw; go_simp; try with_reducible rfl)
    try simp only [Act.put, List.setIfInBounds_toArray, List.set_cons_zero, List.set_cons_succ]
    clear r1 r2 v1 v2
    refine wpAnyH_ready (rs := [15]) (by kernel_rfl) (by simp) ?_
    refine AllReadyH.cons (i := 15) (o := ⟨(some 140), _, _, _, _, _⟩) rfl (fun K hK => ?_) AllReadyH.nil
    go_simp
    refine (little_any A l n c v k x2 a2 HL.out (by omega) HV.out).mono ?_
    rintro e x3 ⟨B3, e3, rfl, r3, b3⟩
    rw [HJ.out] at r3
    rw [HJ.out]
    refine hK.out _ _ (b3) (fun hHeld => ?_)
    clear hK K
    try simp only [Act.put, List.setIfInBounds_toArray, List.set_cons_zero, List.set_cons_succ]
    refine held_more (S' := fun W => Below x3.heap.size x3 W) (fun W h => below_next b3 b3.size h) _ _ _ _ ?_
    clear hHeld
    have hHeld : Below x3.heap.size x3 x3 := Below.refl _ _
    have a3 := (a2.below b3).up b3.size
    have d3 := (d2.below b3).up b3.size
    have t3 := below_next t2 t2.size b3
    clear a2 d2 t2 b3
    have v3 := fun W (h : Below x3.heap.size x3 W) => conv_bytes (P := Try.prog) Try.underlying23 Try.underlying5 Try.underlying9 (r3.byt.below h) (n + j) e3 r3.len
    refine wpAnyH_take (i := 16) (oi := ⟨(some 141), _, _, _, _, _⟩) (v := ?vq1_16) rfl (by kernel_rfl) (by kernel_rfl) (by kernel_rfl) (fun _ _ _ h => h) (Or.inl ⟨by rfl, ?yq1_16⟩) hHeld ?_
    case yq1_16 => (intro W0 hSw; go_simp; try with_reducible rfl)
    try simp only [Act.put, List.setIfInBounds_toArray, List.set_cons_zero, List.set_cons_succ]
    refine wpAnyH_ready (rs := [20]) (by kernel_rfl) (by simp) ?_
    refine AllReadyH.cons (i := 20) (o := ⟨(some 145), _, _, _, _, _⟩) rfl (fun K hK => ?_) AllReadyH.nil
    go_simp
    refine (refLittle_any A l n c v k x3 a3 HL.out (by omega) HV.out).mono ?_
    rintro e x4 ⟨B4, e4, rfl, r4, b4⟩
    rw [HJ.out] at r4
    rw [HJ.out]
    refine hK.out _ _ (b4) (fun hHeld => ?_)
    clear hK K
    try simp only [Act.put, List.setIfInBounds_toArray, List.set_cons_zero, List.set_cons_succ]
    refine held_more (S' := fun W => Below x4.heap.size x4 W) (fun W h => below_next b4 b4.size h) _ _ _ _ ?_
    clear hHeld
    have hHeld : Below x4.heap.size x4 x4 := Below.refl _ _
    have a4 := (a3.below b4).up b4.size
    have d4 := (d3.below b4).up b4.size
    have t4 := below_next t3 t3.size b4
    clear a3 d3 t3 b4
    have v4 := fun W (h : Below x4.heap.size x4 W) => conv_bytes (P := Try.prog) Try.underlying23 Try.underlying5 Try.underlying9 (r4.byt.below h) (n + j) e4 r4.len
    refine wpAnyH_take (i := 21) (oi := ⟨(some 146), _, _, _, _, _⟩) (v := ?vq1_17) rfl (by kernel_rfl) (by kernel_rfl) (by kernel_rfl) (fun _ _ _ h => h) (Or.inl ⟨by rfl, ?yq1_17⟩) hHeld ?_
    case yq1_17 => (intro W0 hSw; go_simp; try with_reducible rfl)
    try simp only [Act.put, List.setIfInBounds_toArray, List.set_cons_zero, List.set_cons_succ]
    refine wpAnyH_take (i := 22) (oi := ⟨(some 147), _, _, _, _, _⟩) (v := ?vq1_18) rfl (by kernel_rfl) (by kernel_rfl) (by kernel_rfl) (fun _ _ _ h => h) (Or.inl ⟨by rfl, ?yq1_18⟩) hHeld ?_
    case yq1_18 => (intro W0 hSw; go_simp; try with_reducible rfl)
    try simp only [Act.put, List.setIfInBounds_toArray, List.set_cons_zero, List.set_cons_succ]
    refine wpAnyH_take (i := 23) (oi := ⟨(some 148), _, _, _, _, _⟩) (v := ?vq1_19) rfl (by kernel_rfl) (by kernel_rfl) (by kernel_rfl) (fun _ _ _ h => h) (Or.inl ⟨by rfl, ?yq1_19⟩) hHeld ?_
    case yq1_19 => (intro W0 hSw; go_simp; try with_reducible rfl)
    try simp only [Act.put, List.setIfInBounds_toArray, List.set_cons_zero, List.set_cons_succ]
    refine wpAnyH_take (i := 24) (oi := ⟨(some 149), _, _, _, _, _⟩) (v := ?vq1_20) rfl (by kernel_rfl) (by kernel_rfl) (by kernel_rfl) (fun _ _ _ h => h) (Or.inl ⟨by rfl, ?yq1_20⟩) hHeld ?_
    case yq1_20 => (intro W0 hSw; go_simp; try with_reducible rfl)
    try simp only [Act.put, List.setIfInBounds_toArray, List.set_cons_zero, List.set_cons_succ]
    refine wpAnyH_take (i := 25) (oi := ⟨(some 150), _, _, _, _, _⟩) (v := ?vq1_21) rfl (by kernel_rfl) (by kernel_rfl) (by kernel_rfl) (fun _ _ _ h => h) (Or.inl ⟨by rfl, ?yq1_21⟩) hHeld ?_
    case yq1_21 => (intro W0 hSw; go_simp; try with_reducible rfl)
    try simp only [Act.put, List.setIfInBounds_toArray, List.set_cons_zero, List.set_cons_succ]
    refine wpAnyH_take (i := 27) (oi := ⟨(some 152), _, _, _, _, _⟩) (v := ?vq1_22) rfl (by kernel_rfl) (by kernel_rfl) (by kernel_rfl) (fun _ _ _ h => h) (Or.inl ⟨by rfl, ?yq1_22⟩) hHeld ?_
    case yq1_22 => (intro W0 hSw; go_simp; try with_reducible rfl)
    try simp only [Act.put, List.setIfInBounds_toArray, List.set_cons_zero, List.set_cons_succ]
    clear r3 r4 v3 v4
    refine wpAnyH_ready (rs := [26]) (by kernel_rfl) (by simp) ?_
    refine AllReadyH.cons (i := 26) (o := ⟨(some 151), _, _, _, _, _⟩) rfl (fun K hK => ?_) AllReadyH.nil
    go_simp
    refine (hex_any A l n c x4 a4 HL.out (by omega)).mono ?_
    rintro e x5 ⟨rfl, b5⟩
    refine hK.out _ _ (b5) (fun hHeld => ?_)
    clear hK K
    try simp only [Act.put, List.setIfInBounds_toArray, List.set_cons_zero, List.set_cons_succ]
    refine held_more (S' := fun W => Below x5.heap.size x5 W) (fun W h => below_next b5 b5.size h) _ _ _ _ ?_
    clear hHeld
    have hHeld : Below x5.heap.size x5 x5 := Below.refl _ _
    have a5 := (a4.below b5).up b5.size
    have d5 := (d4.below b5).up b5.size
    have t5 := below_next t4 t4.size b5
    clear a4 d4 t4 b5
    refine wpAnyH_ready (rs := [28]) (by kernel_rfl) (by simp) ?_
    refine AllReadyH.cons (i := 28) (o := ⟨(some 153), _, _, _, _, _⟩) rfl (fun K hK => ?_) AllReadyH.nil
    go_simp
    refine (refHex_any A l n c x5 a5 HL.out (by omega)).mono ?_
    rintro e x6 ⟨rfl, b6⟩
    refine hK.out _ _ (b6) (fun hHeld => ?_)
    clear hK K
    try simp only [Act.put, List.setIfInBounds_toArray, List.set_cons_zero, List.set_cons_succ]
    refine held_more (S' := fun W => Below x6.heap.size x6 W) (fun W h => below_next b6 b6.size h) _ _ _ _ ?_
    clear hHeld
    have hHeld : Below x6.heap.size x6 x6 := Below.refl _ _
    have a6 := (a5.below b6).up b6.size
    have d6 := (d5.below b6).up b6.size
    have t6 := below_next t5 t5.size b6
    clear a5 d5 t5 b6
    have va := fun W (h : Below x6.heap.size x6 W) => conv_bytes (P := Try.prog) Try.underlying23 Try.underlying5 Try.underlying9 (a6.below h) n c HL.out
    have vb := fun W (h : Below x6.heap.size x6 W) => conv_bytes (P := Try.prog) Try.underlying23 Try.underlying5 Try.underlying9 (d6.below h) p d HM.out
    refine wpAnyH_take (i := 29) (oi := ⟨(some 154), _, _, _, _, _⟩) (v := ?vq1_23) rfl (by kernel_rfl) (by kernel_rfl) (by kernel_rfl) (fun _ _ _ h => h) (Or.inl ⟨by rfl, ?yq1_23⟩) hHeld ?_
    case yq1_23 => (intro W0 hSw; go_simp; try with_reducible rfl)
    try simp only [Act.put, List.setIfInBounds_toArray, List.set_cons_zero, List.set_cons_succ]
    refine wpAnyH_take (i := 30) (oi := ⟨(some 155), _, _, _, _, _⟩) (v := ?vq1_24) rfl (by kernel_rfl) (by kernel_rfl) (by kernel_rfl) (fun _ _ _ h => h) (Or.inl ⟨by rfl, ?yq1_24⟩) hHeld ?_
    case yq1_24 => (intro W0 hSw; go_simp; try with_reducible rfl)
    try simp only [Act.put, List.setIfInBounds_toArray, List.set_cons_zero, List.set_cons_succ]
    refine wpAnyH_take (i := 31) (oi := ⟨(some 156), _, _, _, _, _⟩) (v := ?vq1_25) rfl (by kernel_rfl) (by kernel_rfl) (by kernel_rfl) (fun _ _ _ h => h) (Or.inl ⟨by rfl, ?yq1_25⟩) hHeld ?_
    case yq1_25 => (intro W0 hSw; go_simp; try with_reducible rfl)
    try simp only [Act.put, List.setIfInBounds_toArray, List.set_cons_zero, List.set_cons_succ]
    refine wpAnyH_take (i := 32) (oi := ⟨(some 157), _, _, _, _, _⟩) (v := ?vq1_26) rfl (by kernel_rfl) (by kernel_rfl) (by kernel_rfl) (fun _ _ _ h => h) (Or.inl ⟨by rfl, ?yq1_26⟩) hHeld ?_
    case yq1_26 => (intro W0 hSw; go_simp; try with_reducible rfl)
    try simp only [Act.put, List.setIfInBounds_toArray, List.set_cons_zero, List.set_cons_succ]
    refine wpAnyH_take (i := 33) (oi := ⟨(some 158), _, _, _, _, _⟩) (v := ?vq1_27) rfl (by kernel_rfl) (by kernel_rfl) (by kernel_rfl) (fun _ _ _ h => h) (Or.inl ⟨by rfl, ?yq1_27⟩) hHeld ?_
    case yq1_27 => (intro W0 hSw; go_simp; try with_reducible rfl)
    try simp only [Act.put, List.setIfInBounds_toArray, List.set_cons_zero, List.set_cons_succ]
    refine wpAnyH_take (i := 35) (oi := ⟨(some 160), _, _, _, _, _⟩) (v := ?vq1_28) rfl (by kernel_rfl) (by kernel_rfl) (by kernel_rfl) (fun _ _ _ h => h) (Or.inl ⟨by rfl, ?yq1_28⟩) hHeld ?_
    case yq1_28 => (intro W0 hSw; go_simp; try with_reducible rfl)
    try simp only [Act.put, List.setIfInBounds_toArray, List.set_cons_zero, List.set_cons_succ]
    refine wpAnyH_take (i := 36) (oi := ⟨(some 161), _, _, _, _, _⟩) (v := ?vq1_29) rfl (by kernel_rfl) (by kernel_rfl) (by kernel_rfl) (fun _ _ _ h => h) (Or.inl ⟨by rfl, ?yq1_29⟩) hHeld ?_
    case yq1_29 => (intro W0 hSw; go_simp; try with_reducible rfl)
    try simp only [Act.put, List.setIfInBounds_toArray, List.set_cons_zero, List.set_cons_succ]
    refine wpAnyH_take (i := 37) (oi := ⟨(some 162), _, _, _, _, _⟩) (v := ?vq1_30) rfl (by kernel_rfl) (by kernel_rfl) (by kernel_rfl) (fun _ _ _ h => h) (Or.inl ⟨by rfl, ?yq1_30⟩) hHeld ?_
    case yq1_30 => (intro W0 hSw; go_simp; try with_reducible rfl)
    try simp only [Act.put, List.setIfInBounds_toArray, List.set_cons_zero, List.set_cons_succ]
    refine wpAnyH_take (i := 38) (oi := ⟨(some 163), _, _, _, _, _⟩) (v := ?vq1_31) rfl (by kernel_rfl) (by kernel_rfl) (by kernel_rfl) (fun _ _ _ h => h) (Or.inl ⟨by rfl, ?yq1_31⟩) hHeld ?_
    case yq1_31 => (intro W0 hSw; go_simp; try with_reducible rfl)
    try simp only [Act.put, List.setIfInBounds_toArray, List.set_cons_zero, List.set_cons_succ]
    refine wpAnyH_take (i := 39) (oi := ⟨(some 164), _, _, _, _, _⟩) (v := ?vq1_32) rfl (by kernel_rfl) (by kernel_rfl) (by kernel_rfl) (fun _ _ _ h => h) (Or.inl ⟨by rfl, ?yq1_32⟩) hHeld ?_
    case yq1_32 => (intro W0 hSw; go_simp; try with_reducible rfl)
    try simp only [Act.put, List.setIfInBounds_toArray, List.set_cons_zero, List.set_cons_succ]
    refine wpAnyH_ready (rs := [34]) (by kernel_rfl) (by simp) ?_
    refine AllReadyH.cons (i := 34) (o := ⟨(some 159), _, _, _, _, _⟩) rfl (fun K hK => ?_) AllReadyH.nil
    go_simp
    refine (equal_core A D l m n p c d mm x6 a6 d6 HL.out HM.out (by omega) (by omega) HMM.out).mono ?_
    rintro e x7 ⟨rfl, q, hq⟩
    have b7 : Below x6.heap.size x6 x7 := by rw [hq]; exact below_drewN (Below.refl _ _) q
    clear hq
    refine hK.out _ _ (b7) (fun hHeld => ?_)
    clear hK K
    try simp only [Act.put, List.setIfInBounds_toArray, List.set_cons_zero, List.set_cons_succ]
    refine held_more (S' := fun W => Below x7.heap.size x7 W) (fun W h => below_next b7 b7.size h) _ _ _ _ ?_
    clear hHeld
    have hHeld : Below x7.heap.size x7 x7 := Below.refl _ _
    have a7 := (a6.below b7).up b7.size
    have d7 := (d6.below b7).up b7.size
    have t7 := below_next t6 t6.size b7
    clear a6 d6 t6 b7
    refine wpAnyH_take (i := 40) (oi := ⟨(some 165), _, _, _, _, _⟩) (v := ?vq1_33) rfl (by kernel_rfl) (by kernel_rfl) (by kernel_rfl) (fun _ _ _ h => h) (Or.inl ⟨by rfl, ?yq1_33⟩) hHeld ?_
    case yq1_33 => (intro W0 hSw; go_simp; try with_reducible rfl)
    try simp only [Act.put, List.setIfInBounds_toArray, List.set_cons_zero, List.set_cons_succ]
    refine wpAnyH_take (i := 41) (oi := ⟨(some 166), _, _, _, _, _⟩) (v := ?vq1_34) rfl (by kernel_rfl) (by kernel_rfl) (by kernel_rfl) (fun _ _ _ h => h) (Or.inl ⟨by rfl, ?yq1_34⟩) hHeld ?_
    case yq1_34 => (intro W0 hSw; go_simp; try with_reducible rfl)
    try simp only [Act.put, List.setIfInBounds_toArray, List.set_cons_zero, List.set_cons_succ]
    refine wpAnyH_take (i := 42) (oi := ⟨(some 167), _, _, _, _, _⟩) (v := ?vq1_35) rfl (by kernel_rfl) (by kernel_rfl) (by kernel_rfl) (fun _ _ _ h => h) (Or.inl ⟨by rfl, ?yq1_35⟩) hHeld ?_
    case yq1_35 => (intro W0 hSw; go_simp; try with_reducible rfl)
    try simp only [Act.put, List.setIfInBounds_toArray, List.set_cons_zero, List.set_cons_succ]
    refine wpAnyH_take (i := 43) (oi := ⟨(some 168), _, _, _, _, _⟩) (v := ?vq1_36) rfl (by kernel_rfl) (by kernel_rfl) (by kernel_rfl) (fun _ _ _ h => h) (Or.inl ⟨by rfl, ?yq1_36⟩) hHeld ?_
    case yq1_36 => (intro W0 hSw; go_simp; try with_reducible rfl)
    try simp only [Act.put, List.setIfInBounds_toArray, List.set_cons_zero, List.set_cons_succ]
    refine wpAnyH_take (i := 44) (oi := ⟨(some 169), _, _, _, _, _⟩) (v := ?vq1_37) rfl (by kernel_rfl) (by kernel_rfl) (by kernel_rfl) (fun _ _ _ h => h) (Or.inl ⟨by rfl, ?yq1_37⟩) hHeld ?_
    case yq1_37 => (intro W0 hSw; go_simp; try with_reducible rfl)
    try simp only [Act.put, List.setIfInBounds_toArray, List.set_cons_zero, List.set_cons_succ]
    refine wpAnyH_take (i := 47) (oi := ⟨(some 172), _, _, _, _, _⟩) (v := ?vq1_38) rfl (by kernel_rfl) (by kernel_rfl) (by kernel_rfl) (fun _ _ _ h => h) (Or.inl ⟨by rfl, ?yq1_38⟩) hHeld ?_
    case yq1_38 => (intro W0 hSw; go_simp; try with_reducible rfl)
    try simp only [Act.put, List.setIfInBounds_toArray, List.set_cons_zero, List.set_cons_succ]
    refine wpAnyH_take (i := 48) (oi := ⟨(some 173), _, _, _, _, _⟩) (v := ?vq1_39) rfl (by kernel_rfl) (by kernel_rfl) (by kernel_rfl) (fun _ _ _ h => h) (Or.inl ⟨by rfl, ?yq1_39⟩) hHeld ?_
    case yq1_39 => (intro W0 hSw; go_simp; try with_reducible rfl)
    try simp only [Act.put, List.setIfInBounds_toArray, List.set_cons_zero, List.set_cons_succ]
    clear va vb
    refine wpAnyH_ready (rs := [45]) (by kernel_rfl) (by simp) ?_
    refine AllReadyH.cons (i := 45) (o := ⟨(some 170), _, _, _, _, _⟩) rfl (fun K hK => ?_) AllReadyH.nil
    go_simp
    refine (xor_core A D l m n p c d mm x7 a7 d7 HL.out HM.out (by omega) (by omega) HMM.out).mono ?_
    rintro e x8 ⟨B8, e8, rfl, r8, b8⟩
    refine hK.out _ _ (b8) (fun hHeld => ?_)
    clear hK K
    try simp only [Act.put, List.setIfInBounds_toArray, List.set_cons_zero, List.set_cons_succ]
    refine held_more (S' := fun W => Below x8.heap.size x8 W) (fun W h => below_next b8 b8.size h) _ _ _ _ ?_
    clear hHeld
    have hHeld : Below x8.heap.size x8 x8 := Below.refl _ _
    have a8 := (a7.below b8).up b8.size
    have d8 := (d7.below b8).up b8.size
    have t8 := below_next t7 t7.size b8
    clear a7 d7 t7 b8
    have v8 := fun W (h : Below x8.heap.size x8 W) => conv_bytes (P := Try.prog) Try.underlying23 Try.underlying5 Try.underlying9 (r8.byt.below h) (mm) e8 r8.len
    refine wpAnyH_take (i := 46) (oi := ⟨(some 171), _, _, _, _, _⟩) (v := ?vq1_40) rfl (by kernel_rfl) (by kernel_rfl) (by kernel_rfl) (fun _ _ _ h => h) (Or.inl ⟨by rfl, ?yq1_40⟩) hHeld ?_
    case yq1_40 => (intro W0 hSw; go_simp; try with_reducible rfl)
    try simp only [Act.put, List.setIfInBounds_toArray, List.set_cons_zero, List.set_cons_succ]
    refine wpAnyH_ready (rs := [49]) (by kernel_rfl) (by simp) ?_
    refine AllReadyH.cons (i := 49) (o := ⟨(some 174), _, _, _, _, _⟩) rfl (fun K hK => ?_) AllReadyH.nil
    go_simp
    refine (refXor_core A D l m n p c d mm x8 a8 d8 HL.out HM.out (by omega) (by omega) HMM.out).mono ?_
    rintro e x9 ⟨B9, e9, rfl, r9, b9⟩
    refine hK.out _ _ (b9) (fun hHeld => ?_)
    clear hK K
    try simp only [Act.put, List.setIfInBounds_toArray, List.set_cons_zero, List.set_cons_succ]
    refine held_more (S' := fun W => Below x9.heap.size x9 W) (fun W h => below_next b9 b9.size h) _ _ _ _ ?_
    clear hHeld
    have hHeld : Below x9.heap.size x9 x9 := Below.refl _ _
    have a9 := (a8.below b9).up b9.size
    have d9 := (d8.below b9).up b9.size
    have t9 := below_next t8 t8.size b9
    clear a8 d8 t8 b9
    have v9 := fun W (h : Below x9.heap.size x9 W) => conv_bytes (P := Try.prog) Try.underlying23 Try.underlying5 Try.underlying9 (r9.byt.below h) (mm) e9 r9.len
    refine wpAnyH_take (i := 50) (oi := ⟨(some 175), _, _, _, _, _⟩) (v := ?vq1_41) rfl (by kernel_rfl) (by kernel_rfl) (by kernel_rfl) (fun _ _ _ h => h) (Or.inl ⟨by rfl, ?yq1_41⟩) hHeld ?_
    case yq1_41 => (intro W0 hSw; go_simp; try with_reducible rfl)
    try simp only [Act.put, List.setIfInBounds_toArray, List.set_cons_zero, List.set_cons_succ]
    refine wpAnyH_take (i := 51) (oi := ⟨(some 176), _, _, _, _, _⟩) (v := ?vq1_42) rfl (by kernel_rfl) (by kernel_rfl) (by kernel_rfl) (fun _ _ _ h => h) (Or.inl ⟨by rfl, ?yq1_42⟩) hHeld ?_
    case yq1_42 => (intro W0 hSw; go_simp; try with_reducible rfl)
    try simp only [Act.put, List.setIfInBounds_toArray, List.set_cons_zero, List.set_cons_succ]
    refine wpAnyH_take (i := 52) (oi := ⟨(some 177), _, _, _, _, _⟩) (v := ?vq1_43) rfl (by kernel_rfl) (by kernel_rfl) (by kernel_rfl) (fun _ _ _ h => h) (Or.inl ⟨by rfl, ?yq1_43⟩) hHeld ?_
    case yq1_43 => (intro W0 hSw; go_simp; try with_reducible rfl)
    try simp only [Act.put, List.setIfInBounds_toArray, List.set_cons_zero, List.set_cons_succ]
    refine wpAnyH_take (i := 53) (oi := ⟨(some 178), _, _, _, _, _⟩) (v := ?vq1_44) rfl (by kernel_rfl) (by kernel_rfl) (by kernel_rfl) (fun _ _ _ h => h) (Or.inl ⟨by rfl, ?yq1_44⟩) hHeld ?_
    case yq1_44 => (intro W0 hSw; go_simp; try with_reducible rfl)
    try simp only [Act.put, List.setIfInBounds_toArray, List.set_cons_zero, List.set_cons_succ]
    refine wpAnyH_take (i := 54) (oi := ⟨(some 179), _, _, _, _, _⟩) (v := ?vq1_45) rfl (by kernel_rfl) (by kernel_rfl) (by kernel_rfl) (fun _ _ _ h => h) (Or.inl ⟨by rfl, ?yq1_45⟩) hHeld ?_
    case yq1_45 => (intro W0 hSw; go_simp; try with_reducible rfl)
    try simp only [Act.put, List.setIfInBounds_toArray, List.set_cons_zero, List.set_cons_succ]
    refine wpAnyH_take (i := 57) (oi := ⟨(some 182), _, _, _, _, _⟩) (v := ?vq1_46) rfl (by kernel_rfl) (by kernel_rfl) (by kernel_rfl) (fun _ _ _ h => h) (Or.inl ⟨by rfl, ?yq1_46⟩) hHeld ?_
    case yq1_46 => (intro W0 hSw; go_simp; try with_reducible rfl)
    try simp only [Act.put, List.setIfInBounds_toArray, List.set_cons_zero, List.set_cons_succ]
    clear r8 r9 v8 v9
    refine wpAnyH_ready (rs := [55]) (by kernel_rfl) (by simp) ?_
    refine AllReadyH.cons (i := 55) (o := ⟨(some 180), _, _, _, _, _⟩) rfl (fun K hK => ?_) AllReadyH.nil
    go_simp
    refine (turn_any A l n c x9 a9 HL.out (by omega)).mono ?_
    rintro e x10 ⟨B10, e10, rfl, r10, b10⟩
    refine hK.out _ _ (b10) (fun hHeld => ?_)
    clear hK K
    try simp only [Act.put, List.setIfInBounds_toArray, List.set_cons_zero, List.set_cons_succ]
    refine held_more (S' := fun W => Below x10.heap.size x10 W) (fun W h => below_next b10 b10.size h) _ _ _ _ ?_
    clear hHeld
    have hHeld : Below x10.heap.size x10 x10 := Below.refl _ _
    have a10 := (a9.below b10).up b10.size
    have d10 := (d9.below b10).up b10.size
    have t10 := below_next t9 t9.size b10
    clear a9 d9 t9 b10
    have v10 := fun W (h : Below x10.heap.size x10 W) => conv_bytes (P := Try.prog) Try.underlying23 Try.underlying5 Try.underlying9 (r10.byt.below h) (n) e10 r10.len
    refine wpAnyH_take (i := 56) (oi := ⟨(some 181), _, _, _, _, _⟩) (v := ?vq1_47) rfl (by kernel_rfl) (by kernel_rfl) (by kernel_rfl) (fun _ _ _ h => h) (Or.inl ⟨by rfl, ?yq1_47⟩) hHeld ?_
    case yq1_47 => (intro W0 hSw; go_simp; try with_reducible rfl)
    try simp only [Act.put, List.setIfInBounds_toArray, List.set_cons_zero, List.set_cons_succ]
    refine wpAnyH_ready (rs := [58]) (by kernel_rfl) (by simp) ?_
    refine AllReadyH.cons (i := 58) (o := ⟨(some 183), _, _, _, _, _⟩) rfl (fun K hK => ?_) AllReadyH.nil
    go_simp
    refine (refTurn_any A l n c x10 a10 HL.out (by omega)).mono ?_
    rintro e x11 ⟨B11, e11, rfl, r11, b11⟩
    refine hK.out _ _ (b11) (fun hHeld => ?_)
    clear hK K
    try simp only [Act.put, List.setIfInBounds_toArray, List.set_cons_zero, List.set_cons_succ]
    refine held_more (S' := fun W => Below x11.heap.size x11 W) (fun W h => below_next b11 b11.size h) _ _ _ _ ?_
    clear hHeld
    have hHeld : Below x11.heap.size x11 x11 := Below.refl _ _
    have a11 := (a10.below b11).up b11.size
    have d11 := (d10.below b11).up b11.size
    have t11 := below_next t10 t10.size b11
    clear a10 d10 t10 b11
    have v11 := fun W (h : Below x11.heap.size x11 W) => conv_bytes (P := Try.prog) Try.underlying23 Try.underlying5 Try.underlying9 (r11.byt.below h) (n) e11 r11.len
    refine wpAnyH_take (i := 59) (oi := ⟨(some 184), _, _, _, _, _⟩) (v := ?vq1_48) rfl (by kernel_rfl) (by kernel_rfl) (by kernel_rfl) (fun _ _ _ h => h) (Or.inl ⟨by rfl, ?yq1_48⟩) hHeld ?_
    case yq1_48 => (intro W0 hSw; go_simp; try with_reducible rfl)
    try simp only [Act.put, List.setIfInBounds_toArray, List.set_cons_zero, List.set_cons_succ]
    refine wpAnyH_take (i := 60) (oi := ⟨(some 185), _, _, _, _, _⟩) (v := ?vq1_49) rfl (by kernel_rfl) (by kernel_rfl) (by kernel_rfl) (fun _ _ _ h => h) (Or.inl ⟨by rfl, ?yq1_49⟩) hHeld ?_
    case yq1_49 => (intro W0 hSw; go_simp; try with_reducible rfl)
    try simp only [Act.put, List.setIfInBounds_toArray, List.set_cons_zero, List.set_cons_succ]
    refine wpAnyH_take (i := 61) (oi := ⟨(some 186), _, _, _, _, _⟩) (v := ?vq1_50) rfl (by kernel_rfl) (by kernel_rfl) (by kernel_rfl) (fun _ _ _ h => h) (Or.inl ⟨by rfl, ?yq1_50⟩) hHeld ?_
    case yq1_50 => (intro W0 hSw; go_simp; try with_reducible rfl)
    try simp only [Act.put, List.setIfInBounds_toArray, List.set_cons_zero, List.set_cons_succ]
    refine wpAnyH_take (i := 62) (oi := ⟨(some 10), _, _, _, _, _⟩) (v := ?vq1_51) rfl (by kernel_rfl) (by kernel_rfl) (by kernel_rfl) (fun _ _ _ h => h) (Or.inl ⟨by rfl, ?yq1_51⟩) hHeld ?_
    case yq1_51 => (intro W0 hSw; go_simp; try with_reducible rfl)
    try simp only [Act.put, List.setIfInBounds_toArray, List.set_cons_zero, List.set_cons_succ]
    refine wpAnyH_done (by kernel_rfl) ?_ _
    go_wp2_with fail
    go_ret
    exact ⟨rfl, t11⟩

theorem walk_OctetSays (w : World) (A : Option Addr) (l : List UInt8) (n c : Nat) (ha : Byt w w.heap.size A l) (hl : l.length = n) (D : Option Addr) (m : List UInt8) (p d : Nat) (hd : Byt w w.heap.size D m) (hm : m.length = p)
    (v : Nat) (hv : v < 18446744073709551616) (k : Int) (_hk : (Lit.int .i64 k).wf = true) (s : ByteArray) (_hs : s.size ≤ maxLen) :
    Calls Try.prog 4 #[.slice A n c, .slice D p d, .int .u64 (v : Int), .int .i64 k, .string s] w fun e w' => e = .returned (.bool true) ∧ Below w.heap.size w w' := by
  by_cases h1 : n ≤ 60
  · by_cases h2 : p ≤ 60
    · by_cases h3 : s.size ≤ 100
      · exact says_main w A l n c ha hl D m p d hd hm v hv k s h1 h2 h3
      · exact says_early w A n c D p d v k s (.inr (.inr ⟨h1, h2, by omega⟩))
    · exact says_early w A n c D p d v k s (.inr (.inl ⟨h1, by omega⟩))
  · exact says_early w A n c D p d v k s (.inl (by omega))
end Go.Proofs.Ytkiphhabciedjaa
