/-
  Law BookKnown: what chapter 17 says of gaps, forks, removals. Conditions: none.
-/
import Derived.Test.YtncjobhpiohkkaaPkE
namespace Go.Proofs.Ytncjobhpiohkkaa
open Go.RowKit

def k1 : Ed := ⟨0, 1, [0, 0, 0, 0, 0, 0, 0, 0], 1, ⟨#[99]⟩, ⟨#[102]⟩, ⟨#[120]⟩, 0⟩
theorem k1_cells : k1.cells.toArray = #[.int .i64 0, .int .i64 1, .int .i64 0, .int .i64 0, .int .i64 0, .int .i64 0, .int .i64 0, .int .i64 0, .int .i64 0, .int .i64 0, .int .i64 1, .string ⟨#[99]⟩, .string ⟨#[102]⟩, .string ⟨#[120]⟩, .int .i64 0] := rfl
def k2 : Ed := ⟨0, 1, [0, 0, 0, 0, 0, 0, 0, 0], 1, ⟨#[99]⟩, ⟨#[102]⟩, ⟨#[122]⟩, 0⟩
theorem k2_cells : k2.cells.toArray = #[.int .i64 0, .int .i64 1, .int .i64 0, .int .i64 0, .int .i64 0, .int .i64 0, .int .i64 0, .int .i64 0, .int .i64 0, .int .i64 0, .int .i64 1, .string ⟨#[99]⟩, .string ⟨#[102]⟩, .string ⟨#[122]⟩, .int .i64 0] := rfl
def k4 : Ed := ⟨0, 0, [0, 0, 0, 0, 0, 0, 0, 0], 0, ⟨#[]⟩, ⟨#[]⟩, ⟨#[]⟩, 0⟩
theorem k4_cells : k4.cells.toArray = #[.int .i64 0, .int .i64 0, .int .i64 0, .int .i64 0, .int .i64 0, .int .i64 0, .int .i64 0, .int .i64 0, .int .i64 0, .int .i64 0, .int .i64 0, .string ⟨#[]⟩, .string ⟨#[]⟩, .string ⟨#[]⟩, .int .i64 0] := rfl
def k5 : Ed := ⟨0, 3, [2, 0, 0, 0, 0, 0, 0, 0], 1, ⟨#[100]⟩, ⟨#[103]⟩, ⟨#[]⟩, 0⟩
theorem k5_cells : k5.cells.toArray = #[.int .i64 0, .int .i64 3, .int .i64 2, .int .i64 0, .int .i64 0, .int .i64 0, .int .i64 0, .int .i64 0, .int .i64 0, .int .i64 0, .int .i64 1, .string ⟨#[100]⟩, .string ⟨#[103]⟩, .string ⟨#[]⟩, .int .i64 0] := rfl
def k6 : Ed := ⟨2, 1, [1, 0, 0, 0, 0, 0, 0, 0], 2, ⟨#[99]⟩, ⟨#[]⟩, ⟨#[]⟩, 0⟩
theorem k6_cells : k6.cells.toArray = #[.int .i64 2, .int .i64 1, .int .i64 1, .int .i64 0, .int .i64 0, .int .i64 0, .int .i64 0, .int .i64 0, .int .i64 0, .int .i64 0, .int .i64 2, .string ⟨#[99]⟩, .string ⟨#[]⟩, .string ⟨#[]⟩, .int .i64 0] := rfl
def k7 : Ed := ⟨0, 2, [1, 0, 0, 0, 0, 0, 0, 0], 1, ⟨#[99]⟩, ⟨#[102]⟩, ⟨#[110, 101, 119]⟩, 0⟩
theorem k7_cells : k7.cells.toArray = #[.int .i64 0, .int .i64 2, .int .i64 1, .int .i64 0, .int .i64 0, .int .i64 0, .int .i64 0, .int .i64 0, .int .i64 0, .int .i64 0, .int .i64 1, .string ⟨#[99]⟩, .string ⟨#[102]⟩, .string ⟨#[110, 101, 119]⟩, .int .i64 0] := rfl
set_option maxRecDepth 100000 in
theorem kn_add1 : badd [] k1 = ([k1], 0) := by decide +kernel
set_option maxRecDepth 100000 in
theorem kn_add2 : badd [k1] k2 = ([k1], 10) := by decide +kernel
set_option maxRecDepth 100000 in
theorem kn_add3 : badd [k1] k1 = ([k1], 0) := by decide +kernel
set_option maxRecDepth 100000 in
theorem kn_add4 : badd [k1] k4 = ([k1], 1) := by decide +kernel
set_option maxRecDepth 100000 in
theorem kn_add5 : badd [k1] k5 = ([k1, k5], 0) := by decide +kernel
set_option maxRecDepth 100000 in
theorem kn_add6 : badd [k1, k5] k6 = ([k1, k5, k6], 0) := by decide +kernel
set_option maxRecDepth 100000 in
theorem kn_add7 : badd [k1, k5, k6] k7 = ([k1, k7, k5, k6], 0) := by decide +kernel
set_option maxRecDepth 100000 in
theorem kn_vec2 : bvec [k1, k5] = [1, 0, 0, 0, 0, 0, 0, 0] := by decide +kernel
set_option maxRecDepth 100000 in
theorem kn_vec4 : bvec [k1, k7, k5, k6] = [3, 0, 1, 0, 0, 0, 0, 0] := by decide +kernel
set_option maxRecDepth 100000 in
theorem kn_ball : ball [k1, k5, k6] ⟨#[99]⟩ ⟨#[102]⟩ = [] := by decide +kernel
set_option maxRecDepth 100000 in
theorem kn_cons : bcons [k1, k7, k5, k6] = [⟨#[99]⟩, ⟨#[100]⟩] := by decide +kernel
set_option maxRecDepth 100000 in
theorem kn_fd : bflds [k1, k7, k5, k6] ⟨#[100]⟩ = [⟨#[103]⟩] := by decide +kernel
set_option maxRecDepth 100000 in
theorem kn_fq : bflds [k1, k7, k5, k6] ⟨#[113]⟩ = [] := by decide +kernel
set_option maxRecDepth 100000 in
theorem kn_ne : decide ([k1, k5, k6] = [k1, k7, k5, k6]) = false := by decide +kernel
set_option maxRecDepth 100000 in
theorem kn_eq : decide ([k1, k7, k5, k6] = [k1, k7, k5, k6]) = true := by decide +kernel
set_option maxRecDepth 100000 in
theorem kn_merge : bmerge [k1, k5, k6] [k1, k7, k5, k6] = ([k1, k7, k5, k6], 0) := by decide +kernel
theorem kn_dot (a b : Int) (w : World) : (binOp .eql 28 (.agg #[.int .i64 a, .int .i64 b]) (.agg #[.int .i64 a, .int .i64 b])).run Try.prog w = .ok (.bool true) w := by
  rw [run_eql_struct, eq_dot 9998, decide_eq_true ⟨rfl, rfl⟩]; rfl
theorem kn_v1 (w : World) : (Op.equalIn 10000 30 (.agg #[.int .i64 1, .int .i64 0, .int .i64 0, .int .i64 0, .int .i64 0, .int .i64 0, .int .i64 0, .int .i64 0]) (.agg #[.int .i64 1, .int .i64 0, .int .i64 0, .int .i64 0, .int .i64 0, .int .i64 0, .int .i64 0, .int .i64 0])).run Try.prog w = .ok true w :=
  eq_ints (P := Try.prog) Try.underlying30 Try.underlying2 Try.sizeI64 [1, 0, 0, 0, 0, 0, 0, 0] [1, 0, 0, 0, 0, 0, 0, 0] rfl rfl 9998 w
theorem kn_v3 (w : World) : (Op.equalIn 10000 30 (.agg #[.int .i64 3, .int .i64 0, .int .i64 1, .int .i64 0, .int .i64 0, .int .i64 0, .int .i64 0, .int .i64 0]) (.agg #[.int .i64 3, .int .i64 0, .int .i64 1, .int .i64 0, .int .i64 0, .int .i64 0, .int .i64 0, .int .i64 0])).run Try.prog w = .ok true w :=
  eq_ints (P := Try.prog) Try.underlying30 Try.underlying2 Try.sizeI64 [3, 0, 1, 0, 0, 0, 0, 0] [3, 0, 1, 0, 0, 0, 0, 0] rfl rfl 9998 w
theorem kn_v0 (w : World) : (Op.equalIn 10000 30 (.agg #[.int .i64 0, .int .i64 0, .int .i64 0, .int .i64 0, .int .i64 0, .int .i64 0, .int .i64 0, .int .i64 0]) (.agg #[.int .i64 0, .int .i64 0, .int .i64 0, .int .i64 0, .int .i64 0, .int .i64 0, .int .i64 0, .int .i64 0])).run Try.prog w = .ok true w :=
  eq_ints (P := Try.prog) Try.underlying30 Try.underlying2 Try.sizeI64 [0, 0, 0, 0, 0, 0, 0, 0] [0, 0, 0, 0, 0, 0, 0, 0] rfl rfl 9998 w
/-- One more, in a book that has all that is new. -/
theorem add_f {w : World} {F : Nat → Prop} {b : Nat} {L M : List Ed} {r : Int} (hb : BkF w F b L) (e : Ed) (he : e.seen.length = 8) (hF : ∀ i, w.heap.size ≤ i → F i) (hr : badd L e = (M, r)) :
    Calls Try.prog 11 #[.pointer (some ⟨b, 0, none⟩), .agg e.cells.toArray] w fun x w' => x = .returned (.int .i64 r) ∧ BkF w' F b M ∧ Off F w w' := by
  refine (add_any hb e he).mono ?_
  rintro x w' ⟨rfl, h1, h2⟩
  rw [hr] at h1 ⊢
  exact ⟨rfl, h1.mono fun i _ h => h.elim id (hF i), h2⟩
set_option maxRecDepth 100000 in
set_option maxHeartbeats 8000000 in
theorem walk_BookKnown (w : World) : Calls Try.prog 3 #[] w fun x w' => x = .returned (.bool true) ∧ Below w.heap.size w w' := by
  have DA := vlt (awake_any w)
  go_enter Try.func3, Try.ntmps3
  go_upto_region 3 with (go_at_call 9; refine DA.out.mono ?_; rintro e v0 ⟨rfl, hv0⟩; clear DA)
  have DN := vlt (new_any v0)
  go_upto_region 4 with (go_at_call 10; refine DN.out.mono ?_; rintro e w1 ⟨N, rfl, hN1, hb1⟩; clear DN)
  have hb1' := below_next hv0 hv0.size hb1
  have hN1' := hN1.mono (G := fun i => w.heap.size ≤ i) (fun i _ h => Nat.le_trans hv0.size h)
  have hs1 : w.heap.size ≤ w1.heap.size := hb1'.size
  clear hN1 hb1
  have D1 := add_low hN1' k1 rfl hb1' hs1 kn_add1
  rw [k1_cells] at D1
  have V1 := vlt D1
  clear D1
  go_upto_region 5 with (go_at_call 11; refine V1.out.mono ?_; rintro e w2 ⟨rfl, hN2, hb2, hs2⟩; clear V1)
  have D1 := add_low hN2 k2 rfl hb2 hs2 kn_add2
  rw [k2_cells] at D1
  have V1 := vlt D1
  clear D1
  go_upto_region 6 with (go_at_call 11; refine V1.out.mono ?_; rintro e w3 ⟨rfl, hN3, hb3, hs3⟩; clear V1)
  have D1 := add_low hN3 k1 rfl hb3 hs3 kn_add3
  rw [k1_cells] at D1
  have V1 := vlt D1
  clear D1
  go_upto_region 7 with (go_at_call 11; refine V1.out.mono ?_; rintro e w4 ⟨rfl, hN4, hb4, hs4⟩; clear V1)
  have D1 := add_low hN4 k4 rfl hb4 hs4 kn_add4
  rw [k4_cells] at D1
  have V1 := vlt D1
  clear D1
  go_upto_region 8 with (go_at_call 11; refine V1.out.mono ?_; rintro e w5 ⟨rfl, hN5, hb5, hs5⟩; clear V1)
  have D1 := add_low hN5 k5 rfl hb5 hs5 kn_add5
  rw [k5_cells] at D1
  have V1 := vlt D1
  clear D1
  go_upto_region 9 with (go_at_call 11; refine V1.out.mono ?_; rintro e w6 ⟨rfl, hN6, hb6, hs6⟩; clear V1)
  have D1 := next_any hN6 0 [1, 0, 0, 0, 0, 0, 0, 0] (by decide) kn_vec2.symm
  rw [show (i64v [1, 0, 0, 0, 0, 0, 0, 0]).toArray = #[.int .i64 1, .int .i64 0, .int .i64 0, .int .i64 0, .int .i64 0, .int .i64 0, .int .i64 0, .int .i64 0] from rfl, show iat [1, 0, 0, 0, 0, 0, 0, 0] (0 : Int).toNat + 1 = 2 from rfl] at D1
  have V1 := vlt D1
  clear D1
  go_upto_region 10 with (go_at_call 12; refine V1.out.mono ?_; rintro e w7 ⟨rfl, hb67⟩; clear V1)
  obtain ⟨U7, hU7, hgn, hgv, hbU, hsU⟩ := pair_new w7 #[.int .i64 0, .int .i64 2] #[.int .i64 1, .int .i64 0, .int .i64 0, .int .i64 0, .int .i64 0, .int .i64 0, .int .i64 0, .int .i64 0] 28 30
  rw [hU7]
  have hn7 := row_size hgn
  have hv7 := row_size hgv
  have hN7 := hN6.next (below_next hb67 hb67.size hbU)
  have hb7 := below_next hb6 hs6 (below_next hb67 hb67.size hbU)
  have hs7 : w.heap.size ≤ U7.heap.size := hb7.size
  clear hU7
  obtain ⟨B, hB⟩ : ∃ B, w.heap.size = B := ⟨_, rfl⟩
  have hK := hb67.size
  have hN7 : BkF U7 (fun i => (w.heap.size ≤ i ∧ i < w7.heap.size) ∨ U7.heap.size ≤ i) N [k1, k5] := (hN6.mono (G := fun i => (w.heap.size ≤ i ∧ i < w7.heap.size) ∨ U7.heap.size ≤ i) (fun i h1 h2 => .inl ⟨h2, by omega⟩)).next (below_next hb67 hb67.size hbU)
  have hsz7 : U7.heap.size = w7.heap.size + 2 := hsU.out
  have D1 := add_f hN7 k6 rfl (fun i h => .inr h) kn_add6
  rw [k6_cells] at D1
  have V1 := vlt D1
  clear D1
  go_upto_region 11 with (go_at_call 11; refine V1.out.mono ?_; rintro e w8 ⟨rfl, hN8, ho8⟩; clear V1)
  have hgn8 := row_off hgn ho8 (by intro h; omega)
  have hgv8 := row_off hgv ho8 (by intro h; omega)
  have hb8 := ho8.below hb7 (fun i h => by omega) hs7
  have hs8 := ho8.size
  have D1 := value_any hN8 ⟨#[99]⟩ ⟨#[102]⟩ (by rw [kn_ball]; decide)
  rw [kn_ball, show blast [] = ⟨#[]⟩ from rfl] at D1
  have V1 := vlt D1
  clear D1
  go_upto_region 12 with (go_at_call 13; refine V1.out.mono ?_; rintro e w9 ⟨rfl, h89⟩; clear V1)
  have hs9 := h89.size
  have hN9 := (hN8.mono (G := fun i => ((w.heap.size ≤ i ∧ i < w7.heap.size) ∨ U7.heap.size ≤ i) ∧ i < w9.heap.size) (fun i h1 h2 => ⟨h2, by omega⟩)).next h89
  have hgn9 := row_next2 hgn8 h89
  have hgv9 := row_next2 hgv8 h89
  have hb9 := below_next hb8 (by omega) h89
  clear hgn8 hgv8 hgn hgv hN7 hN8 ho8
  have V1 := vlt (copy_any hN9)
  go_upto_region 13 with (go_at_call 14; refine V1.out.mono ?_; rintro e w10 ⟨X, rfl, hX10, h910⟩; clear V1)
  have hs10 := h910.size
  have hN10 := hN9.next h910
  have hgn10 := row_next2 hgn9 h910
  have hgv10 := row_next2 hgv9 h910
  have hb10 := below_next hb9 hb9.size h910
  have D1 := add_f hX10 k7 rfl (fun i h => by omega) kn_add7
  rw [k7_cells] at D1
  have V1 := vlt D1
  clear D1 hgn9 hgv9 hN9
  go_upto_region 14 with (go_at_call 11; refine V1.out.mono ?_; rintro e w11 ⟨rfl, hX11, ho11⟩; clear V1)
  have hs11 := ho11.size
  have hN11 := hN10.off ho11 (fun i _ h1 h2 => by omega)
  have hgn11 := row_off hgn10 ho11 (by intro h; omega)
  have hgv11 := row_off hgv10 ho11 (by intro h; omega)
  have hb11 := ho11.below hb10 (fun i h => by omega) hb10.size
  have V1 := vlt (same_any hN11 hX11 _ kn_ne)
  clear hgn10 hgv10 hN10 hX10 ho11
  go_upto_region 15 with (go_at_call 15; refine V1.out.mono ?_; rintro e w12 ⟨rfl, h1112⟩; clear V1)
  have hs12 := h1112.size
  have hN12 := hN11.next h1112
  have hX12 := hX11.next h1112
  have hgn12 := row_next2 hgn11 h1112
  have hgv12 := row_next2 hgv11 h1112
  have hb12 := below_next hb11 hb11.size h1112
  have D1 := merge_any hN12 hX12
  rw [kn_merge] at D1
  have V1 := vlt D1
  clear D1 hgn11 hgv11 hN11 hX11
  go_upto_region 16 with (go_at_call 16; refine V1.out.mono ?_; rintro e w13 ⟨rfl, hN13, ho13⟩; clear V1)
  have hs13 := ho13.size
  have hFN := hN12.1
  have hlN := hN12.lt
  have hX13 := hX12.off ho13 (fun i _ h1 h2 => by omega)
  have hgn13 := row_off hgn12 ho13 (by intro h; omega)
  have hgv13 := row_off hgv12 ho13 (by intro h; omega)
  have hb13 := ho13.below hb12 (fun i h => by omega) hb12.size
  have V1 := vlt (next_none w13 N 9 (by decide))
  clear hgn12 hgv12 hN12 hX12 ho13
  rw [show (i64v (List.replicate 8 0)).toArray = #[.int .i64 0, .int .i64 0, .int .i64 0, .int .i64 0, .int .i64 0, .int .i64 0, .int .i64 0, .int .i64 0] from rfl] at V1
  go_upto_region 17 with (go_at_call 12; refine V1.out.mono ?_; rintro e w14 ⟨rfl, h1314⟩; clear V1)
  obtain ⟨U, hU, hgo, hgp, hbU2, hsU2⟩ := pair_new w14 #[.int .i64 0, .int .i64 0] #[.int .i64 0, .int .i64 0, .int .i64 0, .int .i64 0, .int .i64 0, .int .i64 0, .int .i64 0, .int .i64 0] 28 30
  rw [hU]
  have h13U := below_next h1314 h1314.size hbU2
  have hNU := hN13.next h13U
  have hXU := hX13.next h13U
  have hgnU := row_next2 hgn13 h13U
  have hgvU := row_next2 hgv13 h13U
  have hbU3 := below_next hb13 hb13.size h13U
  clear hU hN13 hX13 hgn13 hgv13
  have V1 := vlt (same_any hNU hXU _ kn_eq)

  have cn0 : U.cell? ⟨w7.heap.size, 0, none⟩ = some (.int .i64 0) := (by rw [cell_of_row _ _ _ _ _ _ hgnU.out]; rfl)
  have cn1 : U.cell? ⟨w7.heap.size, 1, none⟩ = some (.int .i64 2) := (by rw [cell_of_row _ _ _ _ _ _ hgnU.out]; rfl)
  have cv0 : U.cell? ⟨(w7.heap.size + 1), 0, none⟩ = some (.int .i64 1) := (by rw [cell_of_row _ _ _ _ _ _ hgvU.out]; rfl)
  have cv1 : U.cell? ⟨(w7.heap.size + 1), 1, none⟩ = some (.int .i64 0) := (by rw [cell_of_row _ _ _ _ _ _ hgvU.out]; rfl)
  have cv2 : U.cell? ⟨(w7.heap.size + 1), 2, none⟩ = some (.int .i64 0) := (by rw [cell_of_row _ _ _ _ _ _ hgvU.out]; rfl)
  have cv3 : U.cell? ⟨(w7.heap.size + 1), 3, none⟩ = some (.int .i64 0) := (by rw [cell_of_row _ _ _ _ _ _ hgvU.out]; rfl)
  have cv4 : U.cell? ⟨(w7.heap.size + 1), 4, none⟩ = some (.int .i64 0) := (by rw [cell_of_row _ _ _ _ _ _ hgvU.out]; rfl)
  have cv5 : U.cell? ⟨(w7.heap.size + 1), 5, none⟩ = some (.int .i64 0) := (by rw [cell_of_row _ _ _ _ _ _ hgvU.out]; rfl)
  have cv6 : U.cell? ⟨(w7.heap.size + 1), 6, none⟩ = some (.int .i64 0) := (by rw [cell_of_row _ _ _ _ _ _ hgvU.out]; rfl)
  have cv7 : U.cell? ⟨(w7.heap.size + 1), 7, none⟩ = some (.int .i64 0) := (by rw [cell_of_row _ _ _ _ _ _ hgvU.out]; rfl)
  have q1 := kn_v1
  have q2 := kn_v3
  have q3 := kn_v0
  go_wp2_with (first
    | (go_at_call 15; refine V1.out.mono ?_; rintro e w15 ⟨rfl, hb15⟩; have hN15 := hNU.next hb15; have hbb15 := below_next hbU3 hbU3.size hb15; have D1 := vec_any hN15; rw [kn_vec4] at D1; have V2 := vlt D1; have hgo15 := row_next2 hgo hb15; have hgp15 := row_next2 hgp hb15; clear D1 V1)
    | (go_at_call 17; refine V2.out.mono ?_; rintro e w16 ⟨rfl, hb16⟩; rw [show (i64v [3, 0, 1, 0, 0, 0, 0, 0]).toArray = #[.int .i64 3, .int .i64 0, .int .i64 1, .int .i64 0, .int .i64 0, .int .i64 0, .int .i64 0, .int .i64 0] from rfl]; have hN16 := hN15.next hb16; have hbb16 := below_next hbb15 hbb15.size hb16; have D1 := contacts_any hN16; rw [kn_cons] at D1; have V3 := vlt D1; have hgo16 := row_next2 hgo15 hb16; have hgp16 := row_next2 hgp15 hb16; clear D1 V2)
    | (go_at_call 19; refine V3.out.mono ?_; rintro e w17 ⟨A17, c17, rfl, hr17, hb17⟩; have hN17 := hN16.next hb17; have hbb17 := below_next hbb16 hbb16.size hb17; have hgo17 := row_next2 hgo16 hb17; have hgp17 := row_next2 hgp16 hb17; have hba := (Below.refl w17.heap.size w17).alloc (Nat.le_refl _) (.cells #[.string ⟨#[99]⟩, .string ⟨#[100]⟩] 9); clear V3)
    | (go_at_call 18; refine (texts_any (m := [⟨#[99]⟩, ⟨#[100]⟩]) c17 2 (hr17.next hba) (tr_new _ rfl rfl rfl) rfl rfl (by decide) true (by decide)).mono ?_; rintro e w18 ⟨rfl, hb18x⟩; have hb18 := below_next hba hba.size hb18x; have hN18 := hN17.next hb18; have hbb18 := below_next hbb17 hbb17.size hb18; have D1 := fields_any hN18 ⟨#[100]⟩; rw [kn_fd] at D1; have V4 := vlt D1; have hgo18 := row_next2 hgo17 hb18; have hgp18 := row_next2 hgp17 hb18; clear D1 hr17 hb18x)
    | (go_at_call 20; refine V4.out.mono ?_; rintro e w19 ⟨A19, c19, rfl, hr19, hb19⟩; have hN19 := hN18.next hb19; have hbb19 := below_next hbb18 hbb18.size hb19; have hgo19 := row_next2 hgo18 hb19; have hgp19 := row_next2 hgp18 hb19; have hbc := (Below.refl w19.heap.size w19).alloc (Nat.le_refl _) (.cells #[.string ⟨#[103]⟩] 9); clear V4)
    | (go_at_call 18; refine (texts_any (m := [⟨#[103]⟩]) c19 1 (hr19.next hbc) (tr_new _ rfl rfl rfl) rfl rfl (by decide) true (by decide)).mono ?_; rintro e w20 ⟨rfl, hb20x⟩; have hb20 := below_next hbc hbc.size hb20x; have hN20 := hN19.next hb20; have hbb20 := below_next hbb19 hbb19.size hb20; have D1 := fields_any hN20 ⟨#[113]⟩; rw [kn_fq] at D1; have V5 := vlt D1; have hgo20 := row_next2 hgo19 hb20; have hgp20 := row_next2 hgp19 hb20; clear D1 hr19 hb20x)
    | (go_at_call 20; refine V5.out.mono ?_; rintro e w21 ⟨A21, c21, rfl, hr21, hb21⟩; have hbb21 := below_next hbb20 hbb20.size hb21; have hgo21 := row_next2 hgo20 hb21; have hgp21 := row_next2 hgp20 hb21; have co0 : w21.cell? ⟨w14.heap.size, 0, none⟩ = some (.int .i64 0) := (by rw [cell_of_row _ _ _ _ _ _ hgo21.out]; rfl); have co1 : w21.cell? ⟨w14.heap.size, 1, none⟩ = some (.int .i64 0) := (by rw [cell_of_row _ _ _ _ _ _ hgo21.out]; rfl); have cp0 : w21.cell? ⟨(w14.heap.size + 1), 0, none⟩ = some (.int .i64 0) := (by rw [cell_of_row _ _ _ _ _ _ hgp21.out]; rfl); have cp1 : w21.cell? ⟨(w14.heap.size + 1), 1, none⟩ = some (.int .i64 0) := (by rw [cell_of_row _ _ _ _ _ _ hgp21.out]; rfl); have cp2 : w21.cell? ⟨(w14.heap.size + 1), 2, none⟩ = some (.int .i64 0) := (by rw [cell_of_row _ _ _ _ _ _ hgp21.out]; rfl); have cp3 : w21.cell? ⟨(w14.heap.size + 1), 3, none⟩ = some (.int .i64 0) := (by rw [cell_of_row _ _ _ _ _ _ hgp21.out]; rfl); have cp4 : w21.cell? ⟨(w14.heap.size + 1), 4, none⟩ = some (.int .i64 0) := (by rw [cell_of_row _ _ _ _ _ _ hgp21.out]; rfl); have cp5 : w21.cell? ⟨(w14.heap.size + 1), 5, none⟩ = some (.int .i64 0) := (by rw [cell_of_row _ _ _ _ _ _ hgp21.out]; rfl); have cp6 : w21.cell? ⟨(w14.heap.size + 1), 6, none⟩ = some (.int .i64 0) := (by rw [cell_of_row _ _ _ _ _ _ hgp21.out]; rfl); have cp7 : w21.cell? ⟨(w14.heap.size + 1), 7, none⟩ = some (.int .i64 0) := (by rw [cell_of_row _ _ _ _ _ _ hgp21.out]; rfl); clear V5))
  go_ret
  exact ⟨rfl, hbb21⟩
end Go.Proofs.Ytncjobhpiohkkaa
