/-
  Words and contracts that other texts share, several in one text. No statement of the seat is proved here. Conditions: as each contract says.
  append(own, src...) where src came in, nil or not: a law for the walks of this seat. Conditions: the sum of the lengths is at most 2^47.
  An empty literal of bytes: a word that other texts share. No statement is proved here. Conditions: none.
  Contract of the document's own held. Conditions: none.
  Contract of the document's own Little. Conditions: the slice is shorter than 2^46 bytes.
  Contract of the document's own Of. Conditions: none.
  Contracts of the document's own In, Out, Plus, Minus, Times, inv, root, Sub, in numbers modulo the prime; its points in four numbers. Conditions: none.
  Contracts of the document's own d, zero, add. Conditions: none.
  Contracts of the document's own encode, mul. Conditions: none.
  Contract of the document's own mul. Conditions: none.
-/
import Derived.Test.YtehkalbiomagjaaDoorPkA
import Derived.Test.YtehkalbiomagjaaDoorPkC
import Derived.Test.YtehkalbiomagjaaDoorPkD
import Derived.Test.YtehkalbiomagjaaDoorPkE
namespace Go.Proofs.YtehkalbiomagjaaDoor
open Go.RowKit

theorem new_byted (w : World) (E : TypeId) (x : Int) (b : UInt8) (hx : x = (b.toNat : Int)) :
    ∀ j u, (bv [b])[j]? = some u → (w.alloc (.cells #[.int .u8 x] E)).drew.cell? ((⟨w.heap.size, 0, none⟩ : Addr).add j) = some u := new_byte w E x b hx

theorem append_nothing {P : Program} (w : World) {base t ty e size n c : Nat} {i : TypeInfo} {v : Value} {xs : List Value} (ht : P.underlying t = some (.slice e)) (hi : P.info? e = some i) (hown : w.ownsRow base e size v n xs) :
    (Builtin.append_ #[t, t] ty #[v, .slice none 0 c]).run P w = .ok v w := by
  rcases hown.2 with ⟨rfl, _⟩ | ⟨g, cap, cur, rfl, _, _, hle, _⟩
  · simp [Builtin.append_, run_underlying ht, typeInfo, sizeOf, hi, Builtin.lenOf, Builtin.firstCells]
  · simp [Builtin.append_, run_underlying ht, typeInfo, sizeOf, hi, Builtin.lenOf, Builtin.firstCells, storeCells, hle]

theorem wp_append_src {P : Program} (w : World) {ops : Array Oper} {rest : List Oper} {o : Oper} {a : Act} {Q : Exit → Act → World → Prop} (hgd : o.guard = none) (s x : Operand) (T : TypeId)
    (ho : o.op = .call { callee := .builtin .append, args := #[s, x], argTypes := #[T, T] }) (E : TypeId) (hT : P.underlying T = some (.slice E))
    (hI : (P.info? E).map (fun i => (i.zero, i.size, i.bytes)) = some (some (.int .u8 0), 1, 1)) (base : Nat) (A : Option Addr) (n c : Nat) (l : List UInt8) (hs : a.eval s = .slice A n c) (hr : Res w base E A n c l)
    (D : Option Addr) (m c2 : Nat) (hx : a.eval x = .slice D m c2) (B : Nat) (news : List UInt8) (hb : Byt w B D news) (hl : news.length = m) (hsz : n + m ≤ 140737488355328) (hbase : base ≤ w.heap.size)
    (h : ∀ A' c' w', Res w' base E A' (n + m) c' (l ++ news) → (∀ B w0, B ≤ base → Below B w0 w → Below B w0 w') → wpList P ops Q rest (a.put o.dst (.slice A' (n + m) c')) w') : wpList P ops Q (o :: rest) a w := by
  cases D with
  | some ad =>
    refine wp_append_bytes w hgd s x T ho E hT hI base A n c l hs hr ad m c2 hx news hl (fun j u hj => ?_) hsz hbase h
    have h0 : 0 < (bv news).length := Nat.lt_of_le_of_lt (Nat.zero_le _) (List.getElem?_eq_some_iff.1 hj).1
    obtain ⟨_, ad', he, hc⟩ := hb.src (some ⟨0, 0, none⟩) _ rfl h0
    injection he with he
    subst he
    exact hc j u hj
  | none =>
    have hn : news = [] := by
      rcases hb with h | ⟨_, _, h, _⟩
      · exact h
      · cases h
    subst hn
    subst hl
    obtain ⟨i, hi, _⟩ := info_parts hI
    refine wpList_plain hgd fun K hK => ?_
    have hrun := append_nothing (P := P) (ty := o.type) (c := c2) w hT hi hr
    unfold Oper.wp
    simp only [execOp, ho, resolve, invoke, builtin, Sem.run_bind, Sem.run_pure, Result.andThen_ok, List.map_toArray, List.map_cons, List.map_nil, hs, hx, List.length_nil, hrun]
    refine hK _ _ ?_
    have h2 := h A c w (by simpa using hr) (fun _ _ _ hb => hb)
    simpa using h2
end Go.Proofs.YtehkalbiomagjaaDoor
namespace Go.Proofs.YtehkalbiomagjaaDoor
open Go.RowKit

theorem Res.none_lit (w : World) (E : TypeId) (base : Nat) (hb : base ≤ w.heap.size) : Res (w.alloc (.cells #[] E)) base E (some ⟨w.heap.size, 0, none⟩) 0 0 [] :=
  Res.row hb (heap_alloc_new w _) (Nat.le_refl _) (by omega) rfl rfl rfl
end Go.Proofs.YtehkalbiomagjaaDoor
namespace Go.Proofs.YtehkalbiomagjaaDoor
open Go.RowKit

set_option maxRecDepth 100000 in
theorem held_any (n : Int) (w : World) : Calls Tryd.prog 90 #[.int .i64 n] w fun e w' => e = .returned (.int .i64 (wd n)) ∧ w = w' := by
  go_enter Tryd.func90, Tryd.ntmps90
  go_wp2
  all_goals go_ret
  all_goals exact ⟨by unfold wd; first | go_num | (congr 2; omega), rfl⟩

end Go.Proofs.YtehkalbiomagjaaDoor
namespace Go.Proofs.YtehkalbiomagjaaDoor
open Go.RowKit

set_option maxRecDepth 100000 in
theorem refLittle_any (A : Option Addr) (l : List UInt8) (n c v : Nat) (k : Int) (w : World) (ha : Byt w w.heap.size A l) (hl : l.length = n) (hn : n ≤ 70368744177664) (hv : v < 18446744073709551616) :
    Calls Tryd.prog 83 #[.slice A n c, .int .u64 (v : Int), .int .i64 k] w fun e w' => ∃ A' c', e = .returned (.slice A' (n + wd k) c') ∧ Res w' w.heap.size 5 A' (n + wd k) c' (l ++ le v (wd k)) ∧ Below w.heap.size w w' := by
  have hw := wd_le k
  generalize hm : wd k = m at *
  have HM := Lib.hid hm
  have HL := Lib.hid hl
  clear hm hl
  have HV := Lib.hid hv
  clear hv
  go_enter Tryd.func83, Tryd.ntmps83
  go_wp2_with (at_builtin; refine wp_append_src _ rfl (.tmp 9) (.tmp 10) 48 rfl 5 Tryd.underlying48 Tryd.infoByte w.heap.size (some ⟨w.heap.size, 0, none⟩) 0 0 [] rfl (Res.none_lit w _ _ (Nat.le_refl _)) A n c rfl w.heap.size l (ha.alloc (Nat.le_refl _) _) HL.out (by omega) (by simp) ?_)
  intro A1 c1 w1 hr1 hb1'
  have hb1 := hb1' w.heap.size w (Nat.le_refl _) ((Below.refl _ _).alloc (Nat.le_refl _) _)
  clear hb1'
  have HR := Lib.hid hr1
  clear hr1
  go_wp2_with fail
  go_loopw [7, 8] (fun s i wr => ∃ (k' : Nat) (A2 : Option Addr) (c2 : Nat), k' ≤ m ∧ i = .int .i64 (k' : Int) ∧ s = .slice A2 (n + k') c2 ∧ Res wr w.heap.size 5 A2 (n + k') c2 (l ++ le v k') ∧ Below w.heap.size w wr)
    (fun _ i _ => m - (intOf i).toNat)
  case atStart => exact ⟨0, A1, c1, Nat.zero_le _, rfl, rfl, by simpa [le] using HR.out, hb1⟩
  case round =>
    obtain ⟨k', A2, c2, hk', rfl, rfl, hres, hbel⟩ := hrel
    by_cases h0 : k' < m
    · go_wp2_with fail
      refine (held_any _ _).mono ?_
      rintro e w' ⟨rfl, rfl⟩
      rw [HM.out]
      go_wp2_with (at_builtin; refine wp_append_bytes _ rfl (.tmp 18) (.tmp 25) 48 rfl 5 Tryd.underlying48 Tryd.infoByte w.heap.size A2 (n + k') c2 _ rfl (hres.alloc _) ⟨wr.heap.size, 0, none⟩ 1 1 rfl [UInt8.ofNat (v / 2 ^ (8 * k'))] rfl (new_byte _ _ _ _ (byte_of v (8 * k'))) (by omega) (by have := hbel.size; simp; omega) ?_)
      intro A3 c3 w3 hres3 hb3
      have hbel3 := hb3 w.heap.size w (Nat.le_refl _) (hbel.alloc (by have := hbel.size; omega) _)
      clear hb3 hres hbel
      go_wp2
      go_roundw
      case rel => exact ⟨k' + 1, A3, c3, by omega, by go_num, rfl, by rw [le]; exact hres3, hbel3⟩
      case measure => simp [intOf]; omega
    · obtain rfl : k' = m := by omega
      go_wp2_with fail
      refine (held_any _ _).mono ?_
      rintro e w' ⟨rfl, rfl⟩
      rw [HM.out]
      go_wp2
      go_ret
      exact ⟨_, _, rfl, hres, hbel⟩
end Go.Proofs.YtehkalbiomagjaaDoor
namespace Go.Proofs.YtehkalbiomagjaaDoor
open Go.RowKit

set_option maxRecDepth 100000 in
theorem rlittle8 (m : Nat) (w : World) (hm : m < 18446744073709551616) :
    Calls Tryd.prog 83 #[.slice none 0 0, .int .u64 (m : Int), .int .i64 8] w fun e w' => ∃ A c, e = .returned (.slice A 8 c) ∧ Res w' w.heap.size 5 A 8 c (le m 8) ∧ Below w.heap.size w w' := by
  refine (refLittle_any none [] 0 0 m 8 w (.inl rfl) rfl (by decide) hm).mono ?_
  rintro e w1 ⟨A, c, rfl, hr, hb⟩
  rw [wd_8, Nat.zero_add, List.nil_append] at hr
  rw [wd_8, Nat.zero_add]
  exact ⟨A, c, rfl, hr, hb⟩

theorem wk_eight (m : Nat) (hm : m < 18446744073709551616) : le m 8 ++ List.replicate 24 0 = wk m := by
  rw [wk, show (32 : Nat) = 8 + 24 from rfl, le_add, show (2 : Nat) ^ (8 * 8) = 18446744073709551616 by decide, Nat.div_eq_of_lt hm]
  congr 1

theorem splice_eight (m : Nat) (hm : m < 18446744073709551616) : splice (bv z32) 0 (bv ((le m 8).take 32)) = bv (wk m) := by
  rw [List.take_of_length_le (by rw [le_len]; decide), splice_bv, ← wk_eight m hm, le_len]
  rfl

set_option maxRecDepth 100000 in
set_option maxHeartbeats 2000000 in
theorem rof_any (w : World) (n : Int) (hlo : -9223372036854775808 ≤ n) (hhi : n ≤ 9223372036854775807) :
    Calls Tryd.prog 64 #[.int .i64 n] w fun e w' => ∃ l, e = .returned (.agg (bv l).toArray) ∧ Vlt (l = wo (ofF n)) ∧ Hid (l.length = 32) ∧ Below w.heap.size w w' := by
  have hzw := zero_word
  obtain ⟨W, hW, hgZ, hbW, hsW⟩ := one_new w (bv z32).toArray 23
  have HW := Lib.hid hW
  have hs : w.heap.size < W.heap.size := by have := hsW.out; omega
  clear hW hsW
  by_cases hn : n < 0
  · obtain ⟨m, hm⟩ : ∃ m : Nat, n = -(m : Int) := ⟨n.natAbs, by omega⟩
    subst hm
    have lm : m < 18446744073709551616 := by omega
    go_enter Tryd.func64, Tryd.ntmps64
    go_upto_region 1 with fail
    rw [HW.out]
    go_upto_region 4 with fail
    rw [neg64 m lm]
    generalize IntKind.u64.wrap (-(m : Int)) = z
    go_upto_region 5 with ((with_reducible refine wpList_store_row rfl 23 (.tmp 4) (.tmp 11) rfl W.heap.size (bv z32).toArray rfl rfl 23 _ (heap_alloc_new _ _) (by kernel_rfl) (by kernel_rfl) (all_oneCell_toArray (bv_one _)) ?_); rw [World.setRow_alloc_new])
    obtain ⟨V, hV⟩ : ∃ V, V = W.alloc (.cells (bv z32).toArray 23) := ⟨_, rfl⟩
    rw [← hV]
    have gZ : Hid (V.heap[w.heap.size]? = some (.cells (bv z32).toArray 23 (0, 0))) := by rw [hV]; exact (Below.heap_alloc _ _ _ (by omega)).trans hgZ.out
    have gT : Hid (V.heap[W.heap.size]? = some (.cells (bv z32).toArray 23 (0, 0))) := by rw [hV]; exact heap_alloc_new _ _
    have hbV : Below w.heap.size w V := by rw [hV]; exact hbW.alloc hbW.size _
    obtain ⟨G, hG⟩ : ∃ G, G = W.heap.size := ⟨_, rfl⟩
    rw [← hG] at gT hs ⊢
    clear hV hG hgZ hbW
    have sT : G < V.heap.size := (Array.getElem?_eq_some_iff.1 gT.out).1
    have hcut := cut_all Tryd.underlying23 Tryd.sizeByte G 0 (by decide)
    refine wp_region_held_drew (S := (fun _ => True)) (by kernel_rfl) (trivial) (fun hHeld => ?_)
    refine wpAnyH_take (i := 0) (oi := ⟨(some 12), _, _, _, _, _⟩) (v := ?vq1_0) rfl (by kernel_rfl) (by kernel_rfl) (by kernel_rfl) (fun _ _ _ h => h) (Or.inl ⟨by rfl, ?yq1_0⟩) hHeld ?_
    case yq1_0 => (intro W0 hSw; go_simp; try with_reducible rfl)
    try simp only [Act.put, List.setIfInBounds_toArray, List.set_cons_zero, List.set_cons_succ]
    refine wpAnyH_take (i := 1) (oi := ⟨(some 13), _, _, _, _, _⟩) (v := ?vq1_1) rfl (by kernel_rfl) (by kernel_rfl) (by kernel_rfl) (fun _ _ _ h => h) (Or.inl ⟨by rfl, ?yq1_1⟩) hHeld ?_
    case yq1_1 => (intro W0 hSw; go_simp; try with_reducible rfl)
    try simp only [Act.put, List.setIfInBounds_toArray, List.set_cons_zero, List.set_cons_succ]
    refine wpAnyH_ready (rs := [2]) (by kernel_rfl) (by simp) ?_
    refine AllReadyH.cons (i := 2) (o := ⟨(some 14), _, _, _, _, _⟩) rfl (fun K hK => ?_) AllReadyH.nil
    go_simp
    refine (rlittle8 m _ lm).mono ?_
    rintro e w6 ⟨A6, c6, rfl, hr6, hb6d⟩
    have hb6 : Below V.heap.size V w6 := below_undrew hb6d
    have g6 : Hid (w6.heap[G]? = some (.cells (bv z32).toArray 23 (0, 0))) := (hb6.block _ sT).trans gT.out
    refine hK.out _ _ (trivial) (fun hHeld => ?_)
    clear hK K
    try simp only [Act.put, List.setIfInBounds_toArray, List.set_cons_zero, List.set_cons_succ]
    refine wpAnyH_ready (rs := [3]) (by kernel_rfl) (by simp) ?_
    refine AllReadyH.cons (i := 3) (o := ⟨(some 15), _, _, _, _, _⟩) rfl (fun K hK => ?_) AllReadyH.nil
    refine step_copy_but rfl (.tmp 12) (.tmp 14) 48 rfl 5 Tryd.underlying48 Tryd.sizeByte G 0 32 32 8 c6 A6 (by rfl) (by rfl) (bv z32) 23 g6.out (le m 8) w6.heap.size hr6.byt (le_len _ _) (by decide) (by rw [bv_len, z32_len]; decide) w6 (But.refl _ _) ?_
    intro w7 g7 hb7
    refine hK.out _ _ (trivial) (fun hHeld => ?_)
    clear hK K
    try simp only [Act.put, List.setIfInBounds_toArray, List.set_cons_zero, List.set_cons_succ]
    refine wpAnyH_done (by kernel_rfl) ?_ _
    obtain ⟨T, dT, HT, lT, wT⟩ := const_word m (Nat.lt_trans lm (by decide))
    have gT8 : Hid (w7.heap[G]? = some (.cells (bv T).toArray 23 (0, 0))) := by
      have h1 := g7.out
      rw [splice_eight m lm, ← dT] at h1
      exact h1
    have gZ8 : Hid (w7.heap[w.heap.size]? = some (.cells (bv z32).toArray 23 (0, 0))) := (hb7.block _ (by have := hb6.size; omega) (by intro e; injection e; omega)).trans ((hb6.block _ (by omega)).trans gZ.out)
    have hbw7 : Below w.heap.size w w7 := But.below (below_next hbV hbV.size hb6) hb7 (by omega) (by have := hbV.size; have := hb6.size; omega)
    have s7 : w.heap.size < w7.heap.size := (Array.getElem?_eq_some_iff.1 gZ8.out).1
    clear dT g7 g6 hr6 hb6 hb7 gZ gT hbV sT hcut hHeld
    go_wp2_with (with_reducible refine wpList_load_row rfl 23 (.tmp 4) rfl G rfl 23 (bv T).toArray (0, 0) _ gT8.out Tryd.underlying23 rfl (by rw [bv_size T HT.out]; kernel_rfl) ?_)
    refine (rsub_any w7 z32 T z32_len HT.out).mono ?_
    rintro e w8 ⟨l, rfl, e8, HL, hb8⟩
    have HE := vlt (show l = wo (ofF (-(m : Int))) by rw [e8.out, ln_z32, lT.out]; exact (wo_of (ofF_neg m)).symm)
    have gZ9 : Hid (w8.heap[w.heap.size]? = some (.cells (bv z32).toArray 23 (0, 0))) := (hb8.block _ s7).trans gZ8.out
    have hbw8 := below_next hbw7 hbw7.size hb8
    clear e8
    go_wp2_with (with_reducible refine wpList_store_row rfl 23 (.tmp 2) (.tmp 20) rfl w.heap.size (bv l).toArray rfl rfl 23 _ gZ9.out (by rw [bv_size l HL.out]; kernel_rfl) (by rw [bv_size l HL.out]; kernel_rfl) (all_oneCell_toArray (bv_one _)) ?_)
    refine bodyPost_ret (v := .agg (bv l).toArray) (results_cell_row Tryd.results64 _ _ w.heap.size 23 _ (0, 0) _ rfl (setRow_heap _ _ _ _ _ _ gZ9.out) Tryd.underlying23 rfl (by rw [bv_size l HL.out]; kernel_rfl)) rfl ⟨l, rfl, HE, HL, below_setRow hbw8 (by omega) _⟩
  · obtain ⟨m, hm⟩ : ∃ m : Nat, n = (m : Int) := ⟨n.natAbs, by omega⟩
    subst hm
    have lm : m < 18446744073709551616 := by omega
    go_enter Tryd.func64, Tryd.ntmps64
    go_upto_region 1 with fail
    rw [HW.out]
    go_upto_region 4 with fail
    go_upto_region 5 with ((with_reducible refine wpList_store_row rfl 23 (.tmp 4) (.tmp 11) rfl W.heap.size (bv z32).toArray rfl rfl 23 _ (heap_alloc_new _ _) (by kernel_rfl) (by kernel_rfl) (all_oneCell_toArray (bv_one _)) ?_); rw [World.setRow_alloc_new])
    obtain ⟨V, hV⟩ : ∃ V, V = W.alloc (.cells (bv z32).toArray 23) := ⟨_, rfl⟩
    rw [← hV]
    have gZ : Hid (V.heap[w.heap.size]? = some (.cells (bv z32).toArray 23 (0, 0))) := by rw [hV]; exact (Below.heap_alloc _ _ _ (by omega)).trans hgZ.out
    have gT : Hid (V.heap[W.heap.size]? = some (.cells (bv z32).toArray 23 (0, 0))) := by rw [hV]; exact heap_alloc_new _ _
    have hbV : Below w.heap.size w V := by rw [hV]; exact hbW.alloc hbW.size _
    obtain ⟨G, hG⟩ : ∃ G, G = W.heap.size := ⟨_, rfl⟩
    rw [← hG] at gT hs ⊢
    clear hV hG hgZ hbW
    have sT : G < V.heap.size := (Array.getElem?_eq_some_iff.1 gT.out).1
    have hcut := cut_all Tryd.underlying23 Tryd.sizeByte G 0 (by decide)
    refine wp_region_held_drew (S := (fun _ => True)) (by kernel_rfl) (trivial) (fun hHeld => ?_)
    refine wpAnyH_take (i := 0) (oi := ⟨(some 12), _, _, _, _, _⟩) (v := ?vq2_0) rfl (by kernel_rfl) (by kernel_rfl) (by kernel_rfl) (fun _ _ _ h => h) (Or.inl ⟨by rfl, ?yq2_0⟩) hHeld ?_
    case yq2_0 => (intro W0 hSw; go_simp; try with_reducible rfl)
    try simp only [Act.put, List.setIfInBounds_toArray, List.set_cons_zero, List.set_cons_succ]
    refine wpAnyH_take (i := 1) (oi := ⟨(some 13), _, _, _, _, _⟩) (v := ?vq2_1) rfl (by kernel_rfl) (by kernel_rfl) (by kernel_rfl) (fun _ _ _ h => h) (Or.inl ⟨by rfl, ?yq2_1⟩) hHeld ?_
    case yq2_1 => (intro W0 hSw; go_simp; try with_reducible rfl)
    try simp only [Act.put, List.setIfInBounds_toArray, List.set_cons_zero, List.set_cons_succ]
    refine wpAnyH_ready (rs := [2]) (by kernel_rfl) (by simp) ?_
    refine AllReadyH.cons (i := 2) (o := ⟨(some 14), _, _, _, _, _⟩) rfl (fun K hK => ?_) AllReadyH.nil
    go_simp
    refine (rlittle8 m _ lm).mono ?_
    rintro e w6 ⟨A6, c6, rfl, hr6, hb6d⟩
    have hb6 : Below V.heap.size V w6 := below_undrew hb6d
    have g6 : Hid (w6.heap[G]? = some (.cells (bv z32).toArray 23 (0, 0))) := (hb6.block _ sT).trans gT.out
    refine hK.out _ _ (trivial) (fun hHeld => ?_)
    clear hK K
    try simp only [Act.put, List.setIfInBounds_toArray, List.set_cons_zero, List.set_cons_succ]
    refine wpAnyH_ready (rs := [3]) (by kernel_rfl) (by simp) ?_
    refine AllReadyH.cons (i := 3) (o := ⟨(some 15), _, _, _, _, _⟩) rfl (fun K hK => ?_) AllReadyH.nil
    refine step_copy_but rfl (.tmp 12) (.tmp 14) 48 rfl 5 Tryd.underlying48 Tryd.sizeByte G 0 32 32 8 c6 A6 (by rfl) (by rfl) (bv z32) 23 g6.out (le m 8) w6.heap.size hr6.byt (le_len _ _) (by decide) (by rw [bv_len, z32_len]; decide) w6 (But.refl _ _) ?_
    intro w7 g7 hb7
    refine hK.out _ _ (trivial) (fun hHeld => ?_)
    clear hK K
    try simp only [Act.put, List.setIfInBounds_toArray, List.set_cons_zero, List.set_cons_succ]
    refine wpAnyH_done (by kernel_rfl) ?_ _
    obtain ⟨T, dT, HT, lT, wT⟩ := const_word m (Nat.lt_trans lm (by decide))
    have gT8 : Hid (w7.heap[G]? = some (.cells (bv T).toArray 23 (0, 0))) := by
      have h1 := g7.out
      rw [splice_eight m lm, ← dT] at h1
      exact h1
    have gZ8 : Hid (w7.heap[w.heap.size]? = some (.cells (bv z32).toArray 23 (0, 0))) := (hb7.block _ (by have := hb6.size; omega) (by intro e; injection e; omega)).trans ((hb6.block _ (by omega)).trans gZ.out)
    have hbw7 : Below w.heap.size w w7 := But.below (below_next hbV hbV.size hb6) hb7 (by omega) (by have := hbV.size; have := hb6.size; omega)
    have s7 : w.heap.size < w7.heap.size := (Array.getElem?_eq_some_iff.1 gZ8.out).1
    clear dT g7 g6 hr6 hb6 hb7 gZ gT hbV sT hcut hHeld
    have HE := vlt (show T = wo (ofF (m : Int)) by rw [wT.out]; exact wo_of (by rw [ofF_nat, Nat.mod_mod]))
    go_wp2_with (first
      | (with_reducible refine wpList_load_row rfl 23 (.tmp 4) rfl G rfl 23 (bv T).toArray (0, 0) _ gT8.out Tryd.underlying23 rfl (by rw [bv_size T HT.out]; kernel_rfl) ?_)
      | (with_reducible refine wpList_store_row rfl 23 (.tmp 2) (.tmp 21) rfl w.heap.size (bv T).toArray rfl rfl 23 _ gZ8.out (by rw [bv_size T HT.out]; kernel_rfl) (by rw [bv_size T HT.out]; kernel_rfl) (all_oneCell_toArray (bv_one _)) ?_))
    refine bodyPost_ret (v := .agg (bv T).toArray) (results_cell_row Tryd.results64 _ _ w.heap.size 23 _ (0, 0) _ rfl (setRow_heap _ _ _ _ _ _ gZ8.out) Tryd.underlying23 rfl (by rw [bv_size T HT.out]; kernel_rfl)) rfl ⟨T, rfl, HE, HT, below_setRow hbw7 (by omega) _⟩
end Go.Proofs.YtehkalbiomagjaaDoor
namespace Go.Proofs.YtehkalbiomagjaaDoor
open Go.RowKit

/-- Carried pieces of a number modulo the prime. -/
def FvE (l : List Int) (v : Fin FP) : Prop := ∃ N, Fv l N ∧ cF N = v
theorem FvE.len {l : List Int} {v : Fin FP} (h : FvE l v) : l.length = 16 := by obtain ⟨N, h, _⟩ := h; exact h.1.len
theorem rplusE_any (w : World) (x y : List Int) {a b : Fin FP} (hx : FvE x a) (hy : FvE y b) :
    Calls Tryd.prog 61 #[.agg (i64v x).toArray, .agg (i64v y).toArray] w fun e w' => ∃ z, e = .returned (.agg (i64v z).toArray) ∧ Vlt (FvE z (a + b)) ∧ Hid (z.length = 16) ∧ Below w.heap.size w w' := by
  obtain ⟨N, hN, rfl⟩ := hx
  obtain ⟨M, hM, rfl⟩ := hy
  refine (rplus_any w x y hN.1 hM.1).mono ?_
  rintro e w' ⟨z, rfl, h, hl, hb⟩
  exact ⟨z, rfl, vlt ⟨N + M, fv_add hN hM h.out, cF_add N M⟩, hl, hb⟩
theorem rminusE_any (w : World) (x y : List Int) {a b : Fin FP} (hx : FvE x a) (hy : FvE y b) :
    Calls Tryd.prog 40 #[.agg (i64v x).toArray, .agg (i64v y).toArray] w fun e w' => ∃ z, e = .returned (.agg (i64v z).toArray) ∧ Vlt (FvE z (a - b)) ∧ Hid (z.length = 16) ∧ Below w.heap.size w w' := by
  obtain ⟨N, hN, rfl⟩ := hx
  obtain ⟨M, hM, rfl⟩ := hy
  refine (rminus_any w x y hN.1 hM.1).mono ?_
  rintro e w' ⟨z, rfl, h, hl, hb⟩
  exact ⟨z, rfl, vlt ⟨subF N M, fv_sub hN hM h.out, cF_sub N M⟩, hl, hb⟩
theorem rtimesE_any (w : World) (x y : List Int) {a b : Fin FP} (hx : FvE x a) (hy : FvE y b) :
    Calls Tryd.prog 59 #[.agg (i64v x).toArray, .agg (i64v y).toArray] w fun e w' => ∃ z, e = .returned (.agg (i64v z).toArray) ∧ Vlt (FvE z (a * b)) ∧ Hid (z.length = 16) ∧ Below w.heap.size w w' := by
  obtain ⟨N, hN, rfl⟩ := hx
  obtain ⟨M, hM, rfl⟩ := hy
  refine (rtimes_any w x y hN.1 hM.1).mono ?_
  rintro e w' ⟨z, rfl, h, hl, hb⟩
  exact ⟨z, rfl, vlt ⟨N * M, fv_mul hN hM h.out, cF_mul N M⟩, hl, hb⟩
theorem rinvE_any (w : World) (x : List Int) {a : Fin FP} (hx : FvE x a) :
    Calls Tryd.prog 60 #[.agg (i64v x).toArray] w fun e w' => ∃ z, e = .returned (.agg (i64v z).toArray) ∧ Vlt (FvE z (ivF a)) ∧ Hid (z.length = 16) ∧ Below w.heap.size w w' := by
  obtain ⟨N, hN, rfl⟩ := hx
  refine (rinv_any w x N hN).mono ?_
  rintro e w' ⟨z, rfl, h, hl, hb⟩
  exact ⟨z, rfl, vlt ⟨N ^ FP2, h.out, (ivF_cF N).symm⟩, hl, hb⟩
theorem rinE_any (w : World) (b : List UInt8) (hb : b.length = 32) :
    Calls Tryd.prog 58 #[.agg (bv b).toArray] w fun e w' => ∃ z, e = .returned (.agg (i64v z).toArray) ∧ Vlt (FvE z (cW b)) ∧ Hid (z.length = 16) ∧ Below w.heap.size w w' := by
  refine (rin_any w b hb).mono ?_
  rintro e w' ⟨z, rfl, h, hl, hbw⟩
  exact ⟨z, rfl, vlt ⟨ln b, fv_in h.out, rfl⟩, hl, hbw⟩
theorem routE_any (w : World) (x : List Int) {a : Fin FP} (hx : FvE x a) :
    Calls Tryd.prog 43 #[.agg (i64v x).toArray] w fun e w' => ∃ l, e = .returned (.agg (bv l).toArray) ∧ Vlt (cW l = a ∧ ln l < FP) ∧ Hid (l.length = 32) ∧ Below w.heap.size w w' := by
  obtain ⟨N, hN, rfl⟩ := hx
  refine (rout_any w x hN.1 N hN.2).mono ?_
  rintro e w' ⟨l, rfl, h, hl, hb⟩
  exact ⟨l, rfl, vlt ⟨by rw [h.out, cW_wo], by rw [h.out]; exact cW_lt _⟩, hl, hb⟩
theorem rrootE_any (w : World) (x : List Int) {a : Fin FP} (hx : FvE x a) :
    Calls Tryd.prog 62 #[.agg (i64v x).toArray] w fun e w' => ∃ l ok, e = .returned (.tuple #[.agg (bv l).toArray, .bool ok]) ∧
      Vlt ((ok = true → cW l * cW l = a ∧ ln l < FP) ∧ (ok = false → ∀ x : Fin FP, x * x ≠ a)) ∧ Hid (l.length = 32) ∧ Below w.heap.size w w' := by
  obtain ⟨N, hN, rfl⟩ := hx
  refine (rroot_any w x N hN).mono ?_
  rintro e w' ⟨l, ok, rfl, h, hl, hb⟩
  refine ⟨l, ok, rfl, vlt ⟨fun hk => ?_, fun hk => ?_⟩, hl, hb⟩
  · subst hk; exact raw_some_E rfl h.out
  · subst hk; exact raw_none_E rfl h.out
theorem rsubW_any (w : World) (a b : List UInt8) (ha : a.length = 32) (hb : b.length = 32) :
    Calls Tryd.prog 63 #[.agg (bv a).toArray, .agg (bv b).toArray] w fun e w' => ∃ l, e = .returned (.agg (bv l).toArray) ∧ Vlt (cW l = cW a - cW b ∧ ln l < FP) ∧ Hid (l.length = 32) ∧ Below w.heap.size w w' := by
  refine (rsub_any w a b ha hb).mono ?_
  rintro e w' ⟨l, rfl, h, hl, hbw⟩
  exact ⟨l, rfl, vlt ⟨by rw [h.out, cW_wo, cF_sub]; rfl, by rw [h.out]; exact cW_lt _⟩, hl, hbw⟩
theorem rofW_any (w : World) (n : Int) (hlo : -9223372036854775808 ≤ n) (hhi : n ≤ 9223372036854775807) :
    Calls Tryd.prog 64 #[.int .i64 n] w fun e w' => ∃ l, e = .returned (.agg (bv l).toArray) ∧ Vlt (cW l = cF (ofF n)) ∧ Hid (l.length = 32) ∧ Below w.heap.size w w' := by
  refine (rof_any w n hlo hhi).mono ?_
  rintro e w' ⟨l, rfl, h, hl, hbw⟩
  exact ⟨l, rfl, vlt (by rw [h.out, cW_wo]), hl, hbw⟩
/-- A point's parts. -/
def subI (p : List Int) (o n : Nat) : List Int := (p.drop o).take n
theorem subI_len (p : List Int) (o n : Nat) (h : o + n ≤ p.length) : (subI p o n).length = n := by simp [subI]; omega
theorem range_subI {w : World} {g o n : Nat} {p : List Int} {t : TypeId} (hg : w.heap[g]? = some (.cells (i64v p).toArray t (0, 0))) : w.rangeAt g o (i64v (subI p o n)) := by
  intro j v hj
  rw [cell_of_row _ _ _ _ _ _ hg]
  simp only [List.getElem?_toArray]
  rw [i64v_at] at hj ⊢
  obtain ⟨x, hx, rfl⟩ := Option.map_eq_some_iff.1 hj
  rw [subI, List.getElem?_take, List.getElem?_drop] at hx
  split at hx
  · rw [hx]; rfl
  · cases hx
structure PoE (q : List Int) (X Y Z T : Fin FP) (P : PtE) : Prop where
  x : FvE (subI q 0 16) X
  y : FvE (subI q 16 16) Y
  z : FvE (subI q 32 16) Z
  t : FvE (subI q 48 16) T
  rep : RepE X Y Z T P
  on : OnP P
def PoX (q : List Int) (P : PtE) : Prop := ∃ X Y Z T, PoE q X Y Z T P
theorem subI_four (x y z t : List Int) (hx : x.length = 16) (hy : y.length = 16) (hz : z.length = 16) (ht : t.length = 16) :
    subI (x ++ (y ++ (z ++ t))) 0 16 = x ∧ subI (x ++ (y ++ (z ++ t))) 16 16 = y ∧ subI (x ++ (y ++ (z ++ t))) 32 16 = z ∧ subI (x ++ (y ++ (z ++ t))) 48 16 = t := by
  refine ⟨?_, ?_, ?_, ?_⟩ <;> simp [subI, List.drop_append, hx, hy, hz, ht, List.drop_eq_nil_of_le, List.take_of_length_le]
theorem poX_four {x y z t p : List Int} {P : PtE} {X Y Z T : Fin FP} (hp : p = x ++ (y ++ (z ++ t))) (hx : FvE x X) (hy : FvE y Y) (hz : FvE z Z) (ht : FvE t T) (h : RepE X Y Z T P) (ho : OnP P) : PoX p P := by
  obtain ⟨h1, h2, h3, h4⟩ := subI_four x y z t hx.len hy.len hz.len ht.len
  subst hp
  exact ⟨X, Y, Z, T, by rw [h1]; exact hx, by rw [h2]; exact hy, by rw [h3]; exact hz, by rw [h4]; exact ht, h, ho⟩
def z64i : List Int := z16 ++ (z16 ++ (z16 ++ z16))
theorem z64i_len : z64i.length = 64 := by simp [z64i, z16_len]
theorem zero_point (w : World) : (zeroValue 57).run Tryd.prog w = .ok (.agg (i64v z64i).toArray) w := by kernel_rfl
set_option maxRecDepth 100000 in
theorem built_point (x y c t : List Int) (hx : x.length = 16) (hy : y.length = 16) (hc : c.length = 16) (ht : t.length = 16) :
    Tryd.prog.built 57 [(0, .agg (i64v x).toArray), (1, .agg (i64v y).toArray), (2, .agg (i64v c).toArray), (3, .agg (i64v t).toArray)] = some (i64v (x ++ (y ++ (c ++ t)))).toArray := by
  have h := built_parts (P := Tryd.prog) (T := 57) (n := 16) (zs := i64v z16) (it := (Tryd.prog.info? 57).get (by kernel_rfl)) (z := .agg (i64v (z16 ++ (z16 ++ (z16 ++ z16)))).toArray) (by kernel_rfl) (by kernel_rfl) (by kernel_rfl) rfl Tryd.underlying57 (by kernel_rfl) (i64v x) (i64v y) (i64v c) (i64v t) (by rw [i64v_len, hx]) (by rw [i64v_len, hy]) (by rw [i64v_len, hc]) (by rw [i64v_len, ht])
  rw [h]
  simp [i64v]
set_option maxRecDepth 100000 in
theorem built_z64i : Tryd.prog.built 57 [] = some (i64v z64i).toArray := by kernel_rfl
def on16 : List Int := 1 :: List.replicate 15 0
theorem on16_len : on16.length = 16 := rfl
theorem on16_is : FvE on16 1 := ⟨1, ⟨⟨1, List.replicate 15 0, rfl, rfl, fun y hy => by rw [List.eq_of_mem_replicate hy]; decide, by decide, by decide⟩, by decide⟩, cF_one⟩
theorem z16_is : FvE z16 0 := ⟨0, ⟨⟨0, List.replicate 15 0, rfl, rfl, fun y hy => by rw [List.eq_of_mem_replicate hy]; decide, by decide, by decide⟩, by decide⟩, cF_zero⟩
def d16 : List Int := 56130 :: 1 :: List.replicate 14 0
theorem d16_len : d16.length = 16 := rfl
theorem d16_is : FvE d16 (cF 121666) := ⟨121666, ⟨⟨56130, 1 :: List.replicate 14 0, rfl, rfl, fun y hy => by
  rcases List.mem_cons.1 hy with rfl | hy
  · decide
  · rw [List.eq_of_mem_replicate hy]; decide, by decide, by decide⟩, by decide⟩, rfl⟩
theorem built_on16 : Tryd.prog.built 55 [(0, .int .i64 1)] = some (i64v on16).toArray := by kernel_rfl
theorem built_z16 : Tryd.prog.built 55 [] = some (i64v z16).toArray := by kernel_rfl
theorem built_d16 : Tryd.prog.built 55 [(0, .int .i64 56130), (1, .int .i64 1)] = some (i64v d16).toArray := by kernel_rfl
theorem hidesI (l : List Int) (h : l.length = 16) : ∃ m : List Int, m = l ∧ Hid (m.length = 16) := ⟨l, rfl, h⟩
theorem d_is : cF (ofF (-121665)) * ivF (cF 121666) = cF dE := by
  have h1 : cF dE * cF 121666 + cF 121665 = 0 := by rw [← cF_mul, ← cF_add, cF_nz]; exact dE_is
  have h2 : cF (ofF (-121665)) + cF 121665 = 0 := by rw [← cF_add, cF_nz]; decide +kernel
  have h3 := ivF_mul (cF 121666) (by intro h; rw [cF_nz] at h; exact absurd h (by decide +kernel))
  generalize cF (ofF (-121665)) = a at *
  generalize cF 121665 = b at *
  generalize cF 121666 = c at *
  generalize cF dE = d at *
  generalize ivF c = v at *
  have h4 : a = d * c := by grind
  rw [h4]
  have h5 : d * c * v = d * (c * v) := by grind
  rw [h5, h3]; grind
end Go.Proofs.YtehkalbiomagjaaDoor
namespace Go.Proofs.YtehkalbiomagjaaDoor
open Go.RowKit

set_option maxRecDepth 100000 in
set_option maxHeartbeats 4000000 in
theorem rd_any (w : World) :
    Calls Tryd.prog 37 #[] w fun e w' => ∃ z, e = .returned (.agg (i64v z).toArray) ∧ Vlt (FvE z (cF dE)) ∧ Hid (z.length = 16) ∧ Below w.heap.size w w' := by
  have hzf := zero_fe
  obtain ⟨D, dD, HD⟩ := hidesI d16 d16_len
  have hb1 := built_d16
  rw [← dD] at hb1
  have FD := vlt (show FvE D (cF 121666) by rw [dD]; exact d16_is)
  clear dD
  obtain ⟨V0, hW, gb0_V0, hb_V0, hsW⟩ := one_new w (i64v z16).toArray 55
  have HW := Lib.hid hW
  have sb0_V0 := row_size gb0_V0
  clear hW hsW 
  go_enter Tryd.func37, Tryd.ntmps37
  go_upto_region 1 with fail
  rw [HW.out]
  refine plain_start_c (S := fun W' => Below V0.heap.size V0 W') 5 (by kernel_rfl) (Below.refl _ _) (fun hHeld => ?_)
  refine c_take (i := 2) (oi := ⟨(some 3), _, _, _, _, _⟩) (v := _) rfl (by decide) (by kernel_rfl) (by kernel_rfl) (by kernel_rfl) (fun _ _ _ h => h) (yields_build (by rfl) _ _ rfl [(0, .int .i64 56130), (1, .int .i64 1)] (by rfl) _ hb1) hHeld ?_
  try simp only [pu]
  refine c_step (i := 0) (o := ⟨(some 1), _, _, _, _, _⟩) (by kernel_rfl) rfl (fun K hK => ?_)
  go_simp
  refine (rofW_any _ (-121665) (by decide) (by decide)).mono ?_
  rintro e W1 ⟨v1, rfl, e1, h1, hb1⟩
  refine hK.out _ _ (below_next hHeld hHeld.size hb1) (fun hHeld => ?_)
  clear hK K hb1
  try simp only [pu]
  refine c_step (i := 1) (o := ⟨(some 2), _, _, _, _, _⟩) (by kernel_rfl) rfl (fun K hK => ?_)
  go_simp
  refine (rinE_any _ v1 (h1.out)).mono ?_
  rintro e W2 ⟨v2, rfl, e2, h2, hb2⟩
  refine hK.out _ _ (below_next hHeld hHeld.size hb2) (fun hHeld => ?_)
  clear hK K hb2
  try simp only [pu]
  refine c_step (i := 3) (o := ⟨(some 4), _, _, _, _, _⟩) (by kernel_rfl) rfl (fun K hK => ?_)
  go_simp
  refine (rinvE_any _ D (FD.out)).mono ?_
  rintro e W3 ⟨v4, rfl, e4, h4, hb3⟩
  refine hK.out _ _ (below_next hHeld hHeld.size hb3) (fun hHeld => ?_)
  clear hK K hb3
  try simp only [pu]
  refine c_step (i := 4) (o := ⟨(some 5), _, _, _, _, _⟩) (by kernel_rfl) rfl (fun K hK => ?_)
  go_simp
  refine (rtimesE_any _ v2 v4 (e2.out) (e4.out)).mono ?_
  rintro e W4 ⟨v5, rfl, e5, h5, hb4⟩
  refine hK.out _ _ (below_next hHeld hHeld.size hb4) (fun hHeld => ?_)
  clear hK K hb4
  try simp only [pu]
  refine c_call (S' := fun _ => True) (o := ⟨none, _, _, _, _, _⟩) (by kernel_rfl) (by kernel_rfl) rfl (fun K hK => ?_)
  have cb0_0 := row_next2 gb0_V0 hHeld
  have cb_0 := below_next hb_V0 hb_V0.size hHeld
  clear hHeld
  refine step_row (by rfl) 55 (.tmp 0) (.tmp 5) rfl (w.heap.size) (i64v v5) rfl rfl 55 _ cb0_0.out (by rw [i64v_len, h5.out]; kernel_rfl) (by rw [List.size_toArray, i64v_len, z16_len, i64v_len, h5.out]) (i64v_one _) ?_
  intro W5 cb0_1 kR
  refine hK.out _ _ trivial (fun hHeld => ?_)
  have cb_1 := But.below cb_0 kR (by omega) cb_0.size
  clear hK K kR cb_0 cb0_0 
  try simp only [pu]
  refine wpAnyH_done (by kernel_rfl) ?_ _
  obtain ⟨V1, rV1⟩ : ∃ X, X = W5 := ⟨_, rfl⟩
  subst rV1
  have gb0_V1 := cb0_1
  have sb0_V1 := row_size gb0_V1
  have hb_V1 := cb_1
  clear hHeld cb_1 hb_V0  cb0_1 sb0_V0 gb0_V0
  have HF := vlt (show FvE v5 (cF dE) by have h := e5.out; rwa [e1.out, d_is] at h)
  go_wp2_with fail
  refine bodyPost_ret (v := .agg (i64v v5).toArray) (results_cell_row Tryd.results37 _ _ (w.heap.size) 55 _ (0, 0) _ rfl gb0_V1.out Tryd.underlying55 rfl (by rw [List.size_toArray, i64v_len, h5.out]; kernel_rfl)) rfl ⟨v5, rfl, HF, h5, hb_V1⟩
set_option maxRecDepth 100000 in
set_option maxHeartbeats 4000000 in
theorem rzero_any (w : World) :
    Calls Tryd.prog 71 #[] w fun e w' => ∃ p, e = .returned (.agg (i64v p).toArray) ∧ Vlt (PoX p (zE)) ∧ Hid (p.length = 64) ∧ Below w.heap.size w w' := by
  have hzp := zero_point
  have hbz := built_z16
  obtain ⟨ONE, dO, HO⟩ := hidesI on16 on16_len
  have hb1 := built_on16
  rw [← dO] at hb1
  have FO := vlt (show FvE ONE 1 by rw [dO]; exact on16_is)
  clear dO
  obtain ⟨V0, hW, gb0_V0, hb_V0, hsW⟩ := one_new w (i64v z64i).toArray 57
  have HW := Lib.hid hW
  have sb0_V0 := row_size gb0_V0
  clear hW hsW 
  go_enter Tryd.func71, Tryd.ntmps71
  go_upto_region 1 with fail
  rw [HW.out]
  refine plain_start_c (S := fun W' => Below V0.heap.size V0 W') 5 (by kernel_rfl) (Below.refl _ _) (fun hHeld => ?_)
  refine c_take (i := 0) (oi := ⟨(some 1), _, _, _, _, _⟩) (v := _) rfl (by decide) (by kernel_rfl) (by kernel_rfl) (by kernel_rfl) (fun _ _ _ h => h) (yields_build (by rfl) _ _ rfl [] (by rfl) _ hbz) hHeld ?_
  try simp only [pu]
  refine c_take (i := 1) (oi := ⟨(some 2), _, _, _, _, _⟩) (v := _) rfl (by decide) (by kernel_rfl) (by kernel_rfl) (by kernel_rfl) (fun _ _ _ h => h) (yields_build (by rfl) _ _ rfl [(0, .int .i64 1)] (by rfl) _ hb1) hHeld ?_
  try simp only [pu]
  refine c_take (i := 2) (oi := ⟨(some 3), _, _, _, _, _⟩) (v := _) rfl (by decide) (by kernel_rfl) (by kernel_rfl) (by kernel_rfl) (fun _ _ _ h => h) (yields_build (by rfl) _ _ rfl [(0, .int .i64 1)] (by rfl) _ hb1) hHeld ?_
  try simp only [pu]
  refine c_take (i := 3) (oi := ⟨(some 4), _, _, _, _, _⟩) (v := _) rfl (by decide) (by kernel_rfl) (by kernel_rfl) (by kernel_rfl) (fun _ _ _ h => h) (yields_build (by rfl) _ _ rfl [] (by rfl) _ hbz) hHeld ?_
  try simp only [pu]
  obtain ⟨p4, ep4⟩ : ∃ p, p = z16 ++ (ONE ++ (ONE ++ (z16))) := ⟨_, rfl⟩
  have bp4 := built_point z16 ONE ONE z16 (z16_len) (HO.out) (HO.out) (z16_len)
  rw [← ep4] at bp4
  have hp4 := Lib.hid (show p4.length = 64 by rw [ep4]; simp [z16_len, HO.out])
  have vp4 := vlt ep4
  clear ep4
  refine c_take (i := 4) (oi := ⟨(some 5), _, _, _, _, _⟩) (v := _) rfl (by decide) (by kernel_rfl) (by kernel_rfl) (by kernel_rfl) (fun _ _ _ h => h) (yields_build (by rfl) _ _ rfl [(0, .agg (i64v z16).toArray), (1, .agg (i64v ONE).toArray), (2, .agg (i64v ONE).toArray), (3, .agg (i64v z16).toArray)] (by rfl) _ bp4) hHeld ?_
  try simp only [pu]
  refine c_call (S' := fun _ => True) (o := ⟨none, _, _, _, _, _⟩) (by kernel_rfl) (by kernel_rfl) rfl (fun K hK => ?_)
  have cb0_0 := row_next2 gb0_V0 hHeld
  have cb_0 := below_next hb_V0 hb_V0.size hHeld
  clear hHeld
  refine step_row (by rfl) 57 (.tmp 0) (.tmp 5) rfl (w.heap.size) (i64v p4) rfl rfl 57 _ cb0_0.out (by rw [i64v_len, hp4.out]; kernel_rfl) (by rw [List.size_toArray, i64v_len, z64i_len, i64v_len, hp4.out]) (i64v_one _) ?_
  intro W1 cb0_1 kR
  refine hK.out _ _ trivial (fun hHeld => ?_)
  have cb_1 := But.below cb_0 kR (by omega) cb_0.size
  clear hK K kR cb_0 cb0_0 
  try simp only [pu]
  refine wpAnyH_done (by kernel_rfl) ?_ _
  obtain ⟨V1, rV1⟩ : ∃ X, X = W1 := ⟨_, rfl⟩
  subst rV1
  have gb0_V1 := cb0_1
  have sb0_V1 := row_size gb0_V1
  have hb_V1 := cb_1
  clear hHeld cb_1 hb_V0  cb0_1 sb0_V0 gb0_V0
  have HF := vlt (show PoX p4 zE from poX_four vp4.out z16_is FO.out FO.out z16_is rep_zero zE_on)
  go_wp2_with fail
  refine bodyPost_ret (v := .agg (i64v p4).toArray) (results_cell_row Tryd.results71 _ _ (w.heap.size) 57 _ (0, 0) _ rfl gb0_V1.out Tryd.underlying57 rfl (by rw [List.size_toArray, i64v_len, hp4.out]; kernel_rfl)) rfl ⟨p4, rfl, HF, hp4, hb_V1⟩
set_option maxRecDepth 100000 in
set_option maxHeartbeats 4000000 in
theorem rptadd_any (w : World) (p q d : List Int) {P Q : PtE} (hlp : p.length = 64) (hp : PoX p P) (hlq : q.length = 64) (hq : PoX q Q) (hd : FvE d (cF dE)) :
    Calls Tryd.prog 36 #[.agg (i64v p).toArray, .agg (i64v q).toArray, .agg (i64v d).toArray] w fun e w' => ∃ p, e = .returned (.agg (i64v p).toArray) ∧ Vlt (PoX p (addE P Q)) ∧ Hid (p.length = 64) ∧ Below w.heap.size w w' := by
  have hzf := zero_fe
  have hzp := zero_point
  have Hhd := Lib.hid hd.len
  have FD := vlt hd
  clear hd
  obtain ⟨Xp, Yp, Zp, Tp, kp⟩ := hp
  have Qp := vlt kp
  have Fp0 := vlt kp.x
  have Lp0 := Lib.hid kp.x.len
  have Fp1 := vlt kp.y
  have Lp1 := Lib.hid kp.y.len
  have Fp2 := vlt kp.z
  have Lp2 := Lib.hid kp.z.len
  have Fp3 := vlt kp.t
  have Lp3 := Lib.hid kp.t.len
  clear kp
  obtain ⟨Xq, Yq, Zq, Tq, kq⟩ := hq
  have Qq := vlt kq
  have Fq0 := vlt kq.x
  have Lq0 := Lib.hid kq.x.len
  have Fq1 := vlt kq.y
  have Lq1 := Lib.hid kq.y.len
  have Fq2 := vlt kq.z
  have Lq2 := Lib.hid kq.z.len
  have Fq3 := vlt kq.t
  have Lq3 := Lib.hid kq.t.len
  clear kq
  obtain ⟨V0, hW, gb0_V0, gb1_V0, gb2_V0, gb3_V0, hb_V0, hsW⟩ := quad_new w (i64v p).toArray (i64v q).toArray (i64v d).toArray (i64v z64i).toArray 57 57 55 57
  have HW := Lib.hid hW
  have Hhlp := Lib.hid hlp
  have Hhlq := Lib.hid hlq
  have sb0_V0 := row_size gb0_V0
  have sb1_V0 := row_size gb1_V0
  have sb2_V0 := row_size gb2_V0
  have sb3_V0 := row_size gb3_V0
  clear hW hsW hlp hlq
  go_enter Tryd.func36, Tryd.ntmps36
  go_upto_region 1 with fail
  rw [HW.out]
  refine wp_region_held_drew (S := fun W' => Below V0.heap.size V0 W') (by kernel_rfl) ((Below.refl _ _).drew) (fun hHeld => ?_)
  refine wpAnyH_take (i := 0) (oi := ⟨(some 15), _, _, _, _, _⟩) (v := ?vqV0_1_0) rfl (by kernel_rfl) (by kernel_rfl) (by kernel_rfl) (fun _ _ _ h => h) (Or.inl ⟨by rfl, ?yqV0_1_0⟩) hHeld ?_
  case yqV0_1_0 => (intro W0 hSw; go_simp; try with_reducible rfl)
  try simp only [pu]
  refine wpAnyH_take (i := 1) (oi := ⟨(some 16), _, _, _, _, _⟩) (v := _) rfl (by kernel_rfl) (by kernel_rfl) (by kernel_rfl) (fun _ _ _ h => h) (yieldsIf_load_mid (by rfl) _ _ rfl (w.heap.size) 16 rfl (i64v (subI p 16 16)) _ (fun W' hW' => range_subI ((hW'.block _ sb0_V0).trans gb0_V0.out)) (Tryd.underlying55) rfl (by rw [i64v_len, Lp1.out]; kernel_rfl)) hHeld ?_
  try simp only [pu]
  refine wpAnyH_take (i := 2) (oi := ⟨(some 17), _, _, _, _, _⟩) (v := ?vqV0_1_2) rfl (by kernel_rfl) (by kernel_rfl) (by kernel_rfl) (fun _ _ _ h => h) (Or.inl ⟨by rfl, ?yqV0_1_2⟩) hHeld ?_
  case yqV0_1_2 => (intro W0 hSw; go_simp; try with_reducible rfl)
  try simp only [pu]
  refine wpAnyH_take (i := 3) (oi := ⟨(some 18), _, _, _, _, _⟩) (v := _) rfl (by kernel_rfl) (by kernel_rfl) (by kernel_rfl) (fun _ _ _ h => h) (yieldsIf_load_mid (by rfl) _ _ rfl (w.heap.size) 0 rfl (i64v (subI p 0 16)) _ (fun W' hW' => range_subI ((hW'.block _ sb0_V0).trans gb0_V0.out)) (Tryd.underlying55) rfl (by rw [i64v_len, Lp0.out]; kernel_rfl)) hHeld ?_
  try simp only [pu]
  refine wpAnyH_take (i := 5) (oi := ⟨(some 20), _, _, _, _, _⟩) (v := ?vqV0_1_5) rfl (by kernel_rfl) (by kernel_rfl) (by kernel_rfl) (fun _ _ _ h => h) (Or.inl ⟨by rfl, ?yqV0_1_5⟩) hHeld ?_
  case yqV0_1_5 => (intro W0 hSw; go_simp; try with_reducible rfl)
  try simp only [pu]
  refine wpAnyH_take (i := 6) (oi := ⟨(some 21), _, _, _, _, _⟩) (v := _) rfl (by kernel_rfl) (by kernel_rfl) (by kernel_rfl) (fun _ _ _ h => h) (yieldsIf_load_mid (by rfl) _ _ rfl (w.heap.size + 1) 16 rfl (i64v (subI q 16 16)) _ (fun W' hW' => range_subI ((hW'.block _ sb1_V0).trans gb1_V0.out)) (Tryd.underlying55) rfl (by rw [i64v_len, Lq1.out]; kernel_rfl)) hHeld ?_
  try simp only [pu]
  refine wpAnyH_take (i := 7) (oi := ⟨(some 22), _, _, _, _, _⟩) (v := ?vqV0_1_7) rfl (by kernel_rfl) (by kernel_rfl) (by kernel_rfl) (fun _ _ _ h => h) (Or.inl ⟨by rfl, ?yqV0_1_7⟩) hHeld ?_
  case yqV0_1_7 => (intro W0 hSw; go_simp; try with_reducible rfl)
  try simp only [pu]
  refine wpAnyH_take (i := 8) (oi := ⟨(some 23), _, _, _, _, _⟩) (v := _) rfl (by kernel_rfl) (by kernel_rfl) (by kernel_rfl) (fun _ _ _ h => h) (yieldsIf_load_mid (by rfl) _ _ rfl (w.heap.size + 1) 0 rfl (i64v (subI q 0 16)) _ (fun W' hW' => range_subI ((hW'.block _ sb1_V0).trans gb1_V0.out)) (Tryd.underlying55) rfl (by rw [i64v_len, Lq0.out]; kernel_rfl)) hHeld ?_
  try simp only [pu]
  refine mix_start (B := V0.heap.size) (al := [⟨11, 7, 55, ((i64v z16)).toArray⟩]) (fuel := 4) rfl hHeld (hHeld.size) ?_
  clear hHeld
  refine mix_call (i := 4) (o := ⟨(some 19), _, _, _, _, _⟩) rfl (by kernel_rfl) (by kernel_rfl) (by kernel_rfl) (by kernel_rfl) (fun x hx => by simp only [List.mem_cons, List.not_mem_nil, or_false] at hx; rcases hx with rfl <;> first | exact makes_new rfl rfl rfl rfl zero_fe) (fun W x _ h => h.alloc h.size _) (fun _ _ _ _ _ h => h) (fun X1 hHeld hBX K hK => ?_)
  go_simp
  refine (rminusE_any _ (subI p 16 16) (subI p 0 16) (Fp1.out) (Fp0.out)).mono ?_
  rintro e W1 ⟨v19, rfl, e19, h19, hb1⟩
  refine hK.out _ _ (below_next hHeld hHeld.size hb1) hb1 ?_
  clear hK K hHeld hBX hb1
  try simp only [pu]
  refine mix_call (i := 9) (o := ⟨(some 24), _, _, _, _, _⟩) rfl (by kernel_rfl) (by kernel_rfl) (by kernel_rfl) (by kernel_rfl) (fun x hx => by simp only [List.mem_cons, List.not_mem_nil, or_false] at hx; rcases hx with rfl <;> first | exact makes_new rfl rfl rfl rfl zero_fe) (fun W x _ h => h.alloc h.size _) (fun _ _ _ _ _ h => h) (fun X2 hHeld hBX K hK => ?_)
  go_simp
  refine (rminusE_any _ (subI q 16 16) (subI q 0 16) (Fq1.out) (Fq0.out)).mono ?_
  rintro e W2 ⟨v24, rfl, e24, h24, hb2⟩
  refine hK.out _ _ (below_next hHeld hHeld.size hb2) hb2 ?_
  clear hK K hHeld hBX hb2
  try simp only [pu]
  refine mix_call (i := 10) (o := ⟨(some 25), _, _, _, _, _⟩) rfl (by kernel_rfl) (by kernel_rfl) (by kernel_rfl) (by kernel_rfl) (fun x hx => by simp only [List.mem_cons, List.not_mem_nil, or_false] at hx; rcases hx with rfl <;> first | exact makes_new rfl rfl rfl rfl zero_fe) (fun W x _ h => h.alloc h.size _) (fun _ _ _ _ _ h => h) (fun X3 hHeld hBX K hK => ?_)
  go_simp
  refine (rtimesE_any _ v19 v24 (e19.out) (e24.out)).mono ?_
  rintro e W3 ⟨v25, rfl, e25, h25, hb3⟩
  refine hK.out _ _ (below_next hHeld hHeld.size hb3) hb3 ?_
  clear hK K hHeld hBX hb3
  try simp only [pu]
  refine mix_end (by kernel_rfl) (by kernel_rfl) (by simp) (by simp) (fun x hx => by simp only [List.mem_cons, List.not_mem_nil, or_false] at hx; rcases hx with rfl <;> first | exact makes_new rfl rfl rfl rfl zero_fe) (fun W x _ h => h.alloc h.size _) (fun D hD W4 hHeld hBX hHo => ?_)
  obtain ⟨G7, rfl⟩ := v_one hD
  have xG7 : Hid (W4.heap[G7]? = some (.cells ((i64v z16)).toArray 55 (0, 0))) := hHo.row (⟨11, 7, 55, ((i64v z16)).toArray⟩, G7) (by simp)
  have lG7 : V0.heap.size ≤ G7 := hHo.new (⟨11, 7, 55, ((i64v z16)).toArray⟩, G7) (by simp)
  clear hHo hBX hD
  simp only [markD, putD, List.foldr_cons, List.foldr_nil, pu, List.setIfInBounds_toArray, List.set_cons_zero, List.set_cons_succ]
  refine wpAnyH_ready (rs := [12]) (by kernel_rfl) (by simp) ?_
  refine AllReadyH.cons (i := 12) (o := ⟨none, _, _, _, _, _⟩) rfl (fun K hK => ?_) AllReadyH.nil
  refine step_row (by rfl) 55 (.tmp 7) (.tmp 25) rfl G7 (i64v v25) rfl rfl 55 _ xG7.out (by rw [i64v_len, h25.out]; kernel_rfl) (by rw [List.size_toArray, i64v_len, i64v_len, h25.out, (show z16.length = 16 from rfl)]) (i64v_one _) ?_
  intro W5 yG7 kG7
  refine hK.out _ _ (But.below hHeld kG7 lG7 hHeld.size) (fun hHeld => ?_)
  clear hK K kG7 xG7
  have xG7 := yG7
  clear yG7
  try simp only [pu]
  refine wpAnyH_done (by kernel_rfl) ?_ _
  obtain ⟨V1, rV1⟩ : ∃ X, X = W5 := ⟨_, rfl⟩
  subst rV1
  have gb0_V1 := row_next2 gb0_V0 hHeld
  have sb0_V1 := row_size gb0_V1
  have gb1_V1 := row_next2 gb1_V0 hHeld
  have sb1_V1 := row_size gb1_V1
  have gb2_V1 := row_next2 gb2_V0 hHeld
  have sb2_V1 := row_size gb2_V1
  have gb3_V1 := row_next2 gb3_V0 hHeld
  have sb3_V1 := row_size gb3_V1
  have hb_V1 := below_next hb_V0 hb_V0.size hHeld
  have gn7_V1 := xG7
  have sn7_V1 := row_size gn7_V1
  clear xG7
  have wG7 : w.heap.size + 4 ≤ G7 := by omega
  clear hHeld hb_V0 sb0_V0 sb1_V0 sb2_V0 sb3_V0
  clear gb0_V0 gb1_V0 gb2_V0 gb3_V0 lG7
  go_upto_region 2 with fail
  refine wp_region_held_drew (S := fun W' => Below V1.heap.size V1 W') (by kernel_rfl) ((Below.refl _ _).drew) (fun hHeld => ?_)
  refine wpAnyH_take (i := 0) (oi := ⟨(some 26), _, _, _, _, _⟩) (v := ?vqV1_2_0) rfl (by kernel_rfl) (by kernel_rfl) (by kernel_rfl) (fun _ _ _ h => h) (Or.inl ⟨by rfl, ?yqV1_2_0⟩) hHeld ?_
  case yqV1_2_0 => (intro W0 hSw; go_simp; try with_reducible rfl)
  try simp only [pu]
  refine wpAnyH_take (i := 1) (oi := ⟨(some 27), _, _, _, _, _⟩) (v := _) rfl (by kernel_rfl) (by kernel_rfl) (by kernel_rfl) (fun _ _ _ h => h) (yieldsIf_load_mid (by rfl) _ _ rfl (w.heap.size) 0 rfl (i64v (subI p 0 16)) _ (fun W' hW' => range_subI ((hW'.block _ sb0_V1).trans gb0_V1.out)) (Tryd.underlying55) rfl (by rw [i64v_len, Lp0.out]; kernel_rfl)) hHeld ?_
  try simp only [pu]
  refine wpAnyH_take (i := 2) (oi := ⟨(some 28), _, _, _, _, _⟩) (v := ?vqV1_2_2) rfl (by kernel_rfl) (by kernel_rfl) (by kernel_rfl) (fun _ _ _ h => h) (Or.inl ⟨by rfl, ?yqV1_2_2⟩) hHeld ?_
  case yqV1_2_2 => (intro W0 hSw; go_simp; try with_reducible rfl)
  try simp only [pu]
  refine wpAnyH_take (i := 3) (oi := ⟨(some 29), _, _, _, _, _⟩) (v := _) rfl (by kernel_rfl) (by kernel_rfl) (by kernel_rfl) (fun _ _ _ h => h) (yieldsIf_load_mid (by rfl) _ _ rfl (w.heap.size) 16 rfl (i64v (subI p 16 16)) _ (fun W' hW' => range_subI ((hW'.block _ sb0_V1).trans gb0_V1.out)) (Tryd.underlying55) rfl (by rw [i64v_len, Lp1.out]; kernel_rfl)) hHeld ?_
  try simp only [pu]
  refine wpAnyH_take (i := 5) (oi := ⟨(some 31), _, _, _, _, _⟩) (v := ?vqV1_2_5) rfl (by kernel_rfl) (by kernel_rfl) (by kernel_rfl) (fun _ _ _ h => h) (Or.inl ⟨by rfl, ?yqV1_2_5⟩) hHeld ?_
  case yqV1_2_5 => (intro W0 hSw; go_simp; try with_reducible rfl)
  try simp only [pu]
  refine wpAnyH_take (i := 6) (oi := ⟨(some 32), _, _, _, _, _⟩) (v := _) rfl (by kernel_rfl) (by kernel_rfl) (by kernel_rfl) (fun _ _ _ h => h) (yieldsIf_load_mid (by rfl) _ _ rfl (w.heap.size + 1) 0 rfl (i64v (subI q 0 16)) _ (fun W' hW' => range_subI ((hW'.block _ sb1_V1).trans gb1_V1.out)) (Tryd.underlying55) rfl (by rw [i64v_len, Lq0.out]; kernel_rfl)) hHeld ?_
  try simp only [pu]
  refine wpAnyH_take (i := 7) (oi := ⟨(some 33), _, _, _, _, _⟩) (v := ?vqV1_2_7) rfl (by kernel_rfl) (by kernel_rfl) (by kernel_rfl) (fun _ _ _ h => h) (Or.inl ⟨by rfl, ?yqV1_2_7⟩) hHeld ?_
  case yqV1_2_7 => (intro W0 hSw; go_simp; try with_reducible rfl)
  try simp only [pu]
  refine wpAnyH_take (i := 8) (oi := ⟨(some 34), _, _, _, _, _⟩) (v := _) rfl (by kernel_rfl) (by kernel_rfl) (by kernel_rfl) (fun _ _ _ h => h) (yieldsIf_load_mid (by rfl) _ _ rfl (w.heap.size + 1) 16 rfl (i64v (subI q 16 16)) _ (fun W' hW' => range_subI ((hW'.block _ sb1_V1).trans gb1_V1.out)) (Tryd.underlying55) rfl (by rw [i64v_len, Lq1.out]; kernel_rfl)) hHeld ?_
  try simp only [pu]
  refine mix_start (B := V1.heap.size) (al := [⟨11, 8, 55, ((i64v z16)).toArray⟩]) (fuel := 4) rfl hHeld (hHeld.size) ?_
  clear hHeld
  refine mix_call (i := 4) (o := ⟨(some 30), _, _, _, _, _⟩) rfl (by kernel_rfl) (by kernel_rfl) (by kernel_rfl) (by kernel_rfl) (fun x hx => by simp only [List.mem_cons, List.not_mem_nil, or_false] at hx; rcases hx with rfl <;> first | exact makes_new rfl rfl rfl rfl zero_fe) (fun W x _ h => h.alloc h.size _) (fun _ _ _ _ _ h => h) (fun X6 hHeld hBX K hK => ?_)
  go_simp
  refine (rplusE_any _ (subI p 0 16) (subI p 16 16) (Fp0.out) (Fp1.out)).mono ?_
  rintro e W6 ⟨v30, rfl, e30, h30, hb6⟩
  refine hK.out _ _ (below_next hHeld hHeld.size hb6) hb6 ?_
  clear hK K hHeld hBX hb6
  try simp only [pu]
  refine mix_call (i := 9) (o := ⟨(some 35), _, _, _, _, _⟩) rfl (by kernel_rfl) (by kernel_rfl) (by kernel_rfl) (by kernel_rfl) (fun x hx => by simp only [List.mem_cons, List.not_mem_nil, or_false] at hx; rcases hx with rfl <;> first | exact makes_new rfl rfl rfl rfl zero_fe) (fun W x _ h => h.alloc h.size _) (fun _ _ _ _ _ h => h) (fun X7 hHeld hBX K hK => ?_)
  go_simp
  refine (rplusE_any _ (subI q 0 16) (subI q 16 16) (Fq0.out) (Fq1.out)).mono ?_
  rintro e W7 ⟨v35, rfl, e35, h35, hb7⟩
  refine hK.out _ _ (below_next hHeld hHeld.size hb7) hb7 ?_
  clear hK K hHeld hBX hb7
  try simp only [pu]
  refine mix_call (i := 10) (o := ⟨(some 36), _, _, _, _, _⟩) rfl (by kernel_rfl) (by kernel_rfl) (by kernel_rfl) (by kernel_rfl) (fun x hx => by simp only [List.mem_cons, List.not_mem_nil, or_false] at hx; rcases hx with rfl <;> first | exact makes_new rfl rfl rfl rfl zero_fe) (fun W x _ h => h.alloc h.size _) (fun _ _ _ _ _ h => h) (fun X8 hHeld hBX K hK => ?_)
  go_simp
  refine (rtimesE_any _ v30 v35 (e30.out) (e35.out)).mono ?_
  rintro e W8 ⟨v36, rfl, e36, h36, hb8⟩
  refine hK.out _ _ (below_next hHeld hHeld.size hb8) hb8 ?_
  clear hK K hHeld hBX hb8
  try simp only [pu]
  refine mix_end (by kernel_rfl) (by kernel_rfl) (by simp) (by simp) (fun x hx => by simp only [List.mem_cons, List.not_mem_nil, or_false] at hx; rcases hx with rfl <;> first | exact makes_new rfl rfl rfl rfl zero_fe) (fun W x _ h => h.alloc h.size _) (fun D hD W9 hHeld hBX hHo => ?_)
  obtain ⟨G8, rfl⟩ := v_one hD
  have xG8 : Hid (W9.heap[G8]? = some (.cells ((i64v z16)).toArray 55 (0, 0))) := hHo.row (⟨11, 8, 55, ((i64v z16)).toArray⟩, G8) (by simp)
  have lG8 : V1.heap.size ≤ G8 := hHo.new (⟨11, 8, 55, ((i64v z16)).toArray⟩, G8) (by simp)
  clear hHo hBX hD
  simp only [markD, putD, List.foldr_cons, List.foldr_nil, pu, List.setIfInBounds_toArray, List.set_cons_zero, List.set_cons_succ]
  refine wpAnyH_ready (rs := [12]) (by kernel_rfl) (by simp) ?_
  refine AllReadyH.cons (i := 12) (o := ⟨none, _, _, _, _, _⟩) rfl (fun K hK => ?_) AllReadyH.nil
  refine step_row (by rfl) 55 (.tmp 8) (.tmp 36) rfl G8 (i64v v36) rfl rfl 55 _ xG8.out (by rw [i64v_len, h36.out]; kernel_rfl) (by rw [List.size_toArray, i64v_len, i64v_len, h36.out, (show z16.length = 16 from rfl)]) (i64v_one _) ?_
  intro W10 yG8 kG8
  refine hK.out _ _ (But.below hHeld kG8 lG8 hHeld.size) (fun hHeld => ?_)
  clear hK K kG8 xG8
  have xG8 := yG8
  clear yG8
  try simp only [pu]
  refine wpAnyH_done (by kernel_rfl) ?_ _
  obtain ⟨V2, rV2⟩ : ∃ X, X = W10 := ⟨_, rfl⟩
  subst rV2
  have gb0_V2 := row_next2 gb0_V1 hHeld
  have sb0_V2 := row_size gb0_V2
  have gb1_V2 := row_next2 gb1_V1 hHeld
  have sb1_V2 := row_size gb1_V2
  have gb2_V2 := row_next2 gb2_V1 hHeld
  have sb2_V2 := row_size gb2_V2
  have gb3_V2 := row_next2 gb3_V1 hHeld
  have sb3_V2 := row_size gb3_V2
  have gn7_V2 := row_next2 gn7_V1 hHeld
  have sn7_V2 := row_size gn7_V2
  have hb_V2 := below_next hb_V1 hb_V1.size hHeld
  have gn8_V2 := xG8
  have sn8_V2 := row_size gn8_V2
  clear xG8
  have wG8 : w.heap.size + 4 ≤ G8 := by omega
  have nG7G8 : G7 ≠ G8 := by omega
  clear hHeld hb_V1 sb0_V1 sb1_V1 sb2_V1 sb3_V1 sn7_V1
  clear gb0_V1 gb1_V1 gb2_V1 gb3_V1 gn7_V1 lG8
  go_upto_region 3 with fail
  refine wp_region_held_drew (S := fun W' => Below V2.heap.size V2 W') (by kernel_rfl) ((Below.refl _ _).drew) (fun hHeld => ?_)
  refine wpAnyH_take (i := 0) (oi := ⟨(some 37), _, _, _, _, _⟩) (v := ?vqV2_3_0) rfl (by kernel_rfl) (by kernel_rfl) (by kernel_rfl) (fun _ _ _ h => h) (Or.inl ⟨by rfl, ?yqV2_3_0⟩) hHeld ?_
  case yqV2_3_0 => (intro W0 hSw; go_simp; try with_reducible rfl)
  try simp only [pu]
  refine wpAnyH_take (i := 1) (oi := ⟨(some 38), _, _, _, _, _⟩) (v := _) rfl (by kernel_rfl) (by kernel_rfl) (by kernel_rfl) (fun _ _ _ h => h) (yieldsIf_load_mid (by rfl) _ _ rfl (w.heap.size) 48 rfl (i64v (subI p 48 16)) _ (fun W' hW' => range_subI ((hW'.block _ sb0_V2).trans gb0_V2.out)) (Tryd.underlying55) rfl (by rw [i64v_len, Lp3.out]; kernel_rfl)) hHeld ?_
  try simp only [pu]
  refine wpAnyH_take (i := 2) (oi := ⟨(some 39), _, _, _, _, _⟩) (v := ?vqV2_3_2) rfl (by kernel_rfl) (by kernel_rfl) (by kernel_rfl) (fun _ _ _ h => h) (Or.inl ⟨by rfl, ?yqV2_3_2⟩) hHeld ?_
  case yqV2_3_2 => (intro W0 hSw; go_simp; try with_reducible rfl)
  try simp only [pu]
  refine wpAnyH_take (i := 3) (oi := ⟨(some 40), _, _, _, _, _⟩) (v := _) rfl (by kernel_rfl) (by kernel_rfl) (by kernel_rfl) (fun _ _ _ h => h) (yieldsIf_load_mid (by rfl) _ _ rfl (w.heap.size + 1) 48 rfl (i64v (subI q 48 16)) _ (fun W' hW' => range_subI ((hW'.block _ sb1_V2).trans gb1_V2.out)) (Tryd.underlying55) rfl (by rw [i64v_len, Lq3.out]; kernel_rfl)) hHeld ?_
  try simp only [pu]
  refine wpAnyH_take (i := 5) (oi := ⟨(some 42), _, _, _, _, _⟩) (v := _) rfl (by kernel_rfl) (by kernel_rfl) (by kernel_rfl) (fun _ _ _ h => h) (yieldsIf_load_mid (by rfl) _ _ rfl (w.heap.size + 2) 0 rfl (i64v d) _ (fun W' hW' => range_row ((hW'.block _ sb2_V2).trans gb2_V2.out)) (Tryd.underlying55) rfl (by rw [i64v_len, Hhd.out]; kernel_rfl)) hHeld ?_
  try simp only [pu]
  refine wpAnyH_take (i := 6) (oi := ⟨(some 43), _, _, _, _, _⟩) (v := _) rfl (by kernel_rfl) (by kernel_rfl) (by kernel_rfl) (fun _ _ _ h => h) (yieldsIf_load_mid (by rfl) _ _ rfl (w.heap.size + 2) 0 rfl (i64v d) _ (fun W' hW' => range_row ((hW'.block _ sb2_V2).trans gb2_V2.out)) (Tryd.underlying55) rfl (by rw [i64v_len, Hhd.out]; kernel_rfl)) hHeld ?_
  try simp only [pu]
  refine mix_start (B := V2.heap.size) (al := [⟨9, 9, 55, ((i64v z16)).toArray⟩]) (fuel := 4) rfl hHeld (hHeld.size) ?_
  clear hHeld
  refine mix_call (i := 4) (o := ⟨(some 41), _, _, _, _, _⟩) rfl (by kernel_rfl) (by kernel_rfl) (by kernel_rfl) (by kernel_rfl) (fun x hx => by simp only [List.mem_cons, List.not_mem_nil, or_false] at hx; rcases hx with rfl <;> first | exact makes_new rfl rfl rfl rfl zero_fe) (fun W x _ h => h.alloc h.size _) (fun _ _ _ _ _ h => h) (fun X11 hHeld hBX K hK => ?_)
  go_simp
  refine (rtimesE_any _ (subI p 48 16) (subI q 48 16) (Fp3.out) (Fq3.out)).mono ?_
  rintro e W11 ⟨v41, rfl, e41, h41, hb11⟩
  refine hK.out _ _ (below_next hHeld hHeld.size hb11) hb11 ?_
  clear hK K hHeld hBX hb11
  try simp only [pu]
  refine mix_call (i := 7) (o := ⟨(some 44), _, _, _, _, _⟩) rfl (by kernel_rfl) (by kernel_rfl) (by kernel_rfl) (by kernel_rfl) (fun x hx => by simp only [List.mem_cons, List.not_mem_nil, or_false] at hx; rcases hx with rfl <;> first | exact makes_new rfl rfl rfl rfl zero_fe) (fun W x _ h => h.alloc h.size _) (fun _ _ _ _ _ h => h) (fun X12 hHeld hBX K hK => ?_)
  go_simp
  refine (rplusE_any _ d d (FD.out) (FD.out)).mono ?_
  rintro e W12 ⟨v44, rfl, e44, h44, hb12⟩
  refine hK.out _ _ (below_next hHeld hHeld.size hb12) hb12 ?_
  clear hK K hHeld hBX hb12
  try simp only [pu]
  refine mix_call (i := 8) (o := ⟨(some 45), _, _, _, _, _⟩) rfl (by kernel_rfl) (by kernel_rfl) (by kernel_rfl) (by kernel_rfl) (fun x hx => by simp only [List.mem_cons, List.not_mem_nil, or_false] at hx; rcases hx with rfl <;> first | exact makes_new rfl rfl rfl rfl zero_fe) (fun W x _ h => h.alloc h.size _) (fun _ _ _ _ _ h => h) (fun X13 hHeld hBX K hK => ?_)
  go_simp
  refine (rtimesE_any _ v41 v44 (e41.out) (e44.out)).mono ?_
  rintro e W13 ⟨v45, rfl, e45, h45, hb13⟩
  refine hK.out _ _ (below_next hHeld hHeld.size hb13) hb13 ?_
  clear hK K hHeld hBX hb13
  try simp only [pu]
  refine mix_end (by kernel_rfl) (by kernel_rfl) (by simp) (by simp) (fun x hx => by simp only [List.mem_cons, List.not_mem_nil, or_false] at hx; rcases hx with rfl <;> first | exact makes_new rfl rfl rfl rfl zero_fe) (fun W x _ h => h.alloc h.size _) (fun D hD W14 hHeld hBX hHo => ?_)
  obtain ⟨G9, rfl⟩ := v_one hD
  have xG9 : Hid (W14.heap[G9]? = some (.cells ((i64v z16)).toArray 55 (0, 0))) := hHo.row (⟨9, 9, 55, ((i64v z16)).toArray⟩, G9) (by simp)
  have lG9 : V2.heap.size ≤ G9 := hHo.new (⟨9, 9, 55, ((i64v z16)).toArray⟩, G9) (by simp)
  clear hHo hBX hD
  simp only [markD, putD, List.foldr_cons, List.foldr_nil, pu, List.setIfInBounds_toArray, List.set_cons_zero, List.set_cons_succ]
  refine wpAnyH_ready (rs := [10]) (by kernel_rfl) (by simp) ?_
  refine AllReadyH.cons (i := 10) (o := ⟨none, _, _, _, _, _⟩) rfl (fun K hK => ?_) AllReadyH.nil
  refine step_row (by rfl) 55 (.tmp 9) (.tmp 45) rfl G9 (i64v v45) rfl rfl 55 _ xG9.out (by rw [i64v_len, h45.out]; kernel_rfl) (by rw [List.size_toArray, i64v_len, i64v_len, h45.out, (show z16.length = 16 from rfl)]) (i64v_one _) ?_
  intro W15 yG9 kG9
  refine hK.out _ _ (But.below hHeld kG9 lG9 hHeld.size) (fun hHeld => ?_)
  clear hK K kG9 xG9
  have xG9 := yG9
  clear yG9
  try simp only [pu]
  refine wpAnyH_done (by kernel_rfl) ?_ _
  obtain ⟨V3, rV3⟩ : ∃ X, X = W15 := ⟨_, rfl⟩
  subst rV3
  have gb0_V3 := row_next2 gb0_V2 hHeld
  have sb0_V3 := row_size gb0_V3
  have gb1_V3 := row_next2 gb1_V2 hHeld
  have sb1_V3 := row_size gb1_V3
  have gb2_V3 := row_next2 gb2_V2 hHeld
  have sb2_V3 := row_size gb2_V3
  have gb3_V3 := row_next2 gb3_V2 hHeld
  have sb3_V3 := row_size gb3_V3
  have gn7_V3 := row_next2 gn7_V2 hHeld
  have sn7_V3 := row_size gn7_V3
  have gn8_V3 := row_next2 gn8_V2 hHeld
  have sn8_V3 := row_size gn8_V3
  have hb_V3 := below_next hb_V2 hb_V2.size hHeld
  have gn9_V3 := xG9
  have sn9_V3 := row_size gn9_V3
  clear xG9
  have wG9 : w.heap.size + 4 ≤ G9 := by omega
  have nG7G9 : G7 ≠ G9 := by omega
  have nG8G9 : G8 ≠ G9 := by omega
  clear hHeld hb_V2 sb0_V2 sb1_V2 sb2_V2 sb3_V2 sn7_V2 sn8_V2
  clear gb0_V2 gb1_V2 gb2_V2 gb3_V2 gn7_V2 gn8_V2 lG9
  go_upto_region 4 with fail
  refine plain_start (S := fun W' => Below V3.heap.size V3 W') (by kernel_rfl) (Below.refl _ _) (fun hHeld => ?_)
  refine wpAnyH_take (i := 0) (oi := ⟨(some 46), _, _, _, _, _⟩) (v := ?vqV3_4_0) rfl (by kernel_rfl) (by kernel_rfl) (by kernel_rfl) (fun _ _ _ h => h) (Or.inl ⟨by rfl, ?yqV3_4_0⟩) hHeld ?_
  case yqV3_4_0 => (intro W0 hSw; go_simp; try with_reducible rfl)
  try simp only [pu]
  refine wpAnyH_take (i := 1) (oi := ⟨(some 47), _, _, _, _, _⟩) (v := _) rfl (by kernel_rfl) (by kernel_rfl) (by kernel_rfl) (fun _ _ _ h => h) (yieldsIf_load_mid (by rfl) _ _ rfl (w.heap.size) 32 rfl (i64v (subI p 32 16)) _ (fun W' hW' => range_subI ((hW'.block _ sb0_V3).trans gb0_V3.out)) (Tryd.underlying55) rfl (by rw [i64v_len, Lp2.out]; kernel_rfl)) hHeld ?_
  try simp only [pu]
  refine wpAnyH_take (i := 2) (oi := ⟨(some 48), _, _, _, _, _⟩) (v := ?vqV3_4_2) rfl (by kernel_rfl) (by kernel_rfl) (by kernel_rfl) (fun _ _ _ h => h) (Or.inl ⟨by rfl, ?yqV3_4_2⟩) hHeld ?_
  case yqV3_4_2 => (intro W0 hSw; go_simp; try with_reducible rfl)
  try simp only [pu]
  refine wpAnyH_take (i := 3) (oi := ⟨(some 49), _, _, _, _, _⟩) (v := _) rfl (by kernel_rfl) (by kernel_rfl) (by kernel_rfl) (fun _ _ _ h => h) (yieldsIf_load_mid (by rfl) _ _ rfl (w.heap.size + 1) 32 rfl (i64v (subI q 32 16)) _ (fun W' hW' => range_subI ((hW'.block _ sb1_V3).trans gb1_V3.out)) (Tryd.underlying55) rfl (by rw [i64v_len, Lq2.out]; kernel_rfl)) hHeld ?_
  try simp only [pu]
  refine mix_start (B := V3.heap.size) (al := [⟨5, 10, 55, ((i64v z16)).toArray⟩]) (fuel := 2) rfl hHeld (hHeld.size) ?_
  clear hHeld
  refine mix_call (i := 4) (o := ⟨(some 50), _, _, _, _, _⟩) rfl (by kernel_rfl) (by kernel_rfl) (by kernel_rfl) (by kernel_rfl) (fun x hx => by simp only [List.mem_cons, List.not_mem_nil, or_false] at hx; rcases hx with rfl <;> first | exact makes_new rfl rfl rfl rfl zero_fe) (fun W x _ h => h.alloc h.size _) (fun _ _ _ _ _ h => h) (fun X16 hHeld hBX K hK => ?_)
  go_simp
  refine (rtimesE_any _ (subI p 32 16) (subI q 32 16) (Fp2.out) (Fq2.out)).mono ?_
  rintro e W16 ⟨v50, rfl, e50, h50, hb16⟩
  refine hK.out _ _ (below_next hHeld hHeld.size hb16) hb16 ?_
  clear hK K hHeld hBX hb16
  try simp only [pu]
  refine mix_end (by kernel_rfl) (by kernel_rfl) (by simp) (by simp) (fun x hx => by simp only [List.mem_cons, List.not_mem_nil, or_false] at hx; rcases hx with rfl <;> first | exact makes_new rfl rfl rfl rfl zero_fe) (fun W x _ h => h.alloc h.size _) (fun D hD W17 hHeld hBX hHo => ?_)
  obtain ⟨G10, rfl⟩ := v_one hD
  have xG10 : Hid (W17.heap[G10]? = some (.cells ((i64v z16)).toArray 55 (0, 0))) := hHo.row (⟨5, 10, 55, ((i64v z16)).toArray⟩, G10) (by simp)
  have lG10 : V3.heap.size ≤ G10 := hHo.new (⟨5, 10, 55, ((i64v z16)).toArray⟩, G10) (by simp)
  clear hHo hBX hD
  simp only [markD, putD, List.foldr_cons, List.foldr_nil, pu, List.setIfInBounds_toArray, List.set_cons_zero, List.set_cons_succ]
  refine wpAnyH_ready (rs := [6]) (by kernel_rfl) (by simp) ?_
  refine AllReadyH.cons (i := 6) (o := ⟨none, _, _, _, _, _⟩) rfl (fun K hK => ?_) AllReadyH.nil
  refine step_row (by rfl) 55 (.tmp 10) (.tmp 50) rfl G10 (i64v v50) rfl rfl 55 _ xG10.out (by rw [i64v_len, h50.out]; kernel_rfl) (by rw [List.size_toArray, i64v_len, i64v_len, h50.out, (show z16.length = 16 from rfl)]) (i64v_one _) ?_
  intro W18 yG10 kG10
  refine hK.out _ _ (But.below hHeld kG10 lG10 hHeld.size) (fun hHeld => ?_)
  clear hK K kG10 xG10
  have xG10 := yG10
  clear yG10
  try simp only [pu]
  refine wpAnyH_done (by kernel_rfl) ?_ _
  obtain ⟨V4, rV4⟩ : ∃ X, X = W18 := ⟨_, rfl⟩
  subst rV4
  have gb0_V4 := row_next2 gb0_V3 hHeld
  have sb0_V4 := row_size gb0_V4
  have gb1_V4 := row_next2 gb1_V3 hHeld
  have sb1_V4 := row_size gb1_V4
  have gb2_V4 := row_next2 gb2_V3 hHeld
  have sb2_V4 := row_size gb2_V4
  have gb3_V4 := row_next2 gb3_V3 hHeld
  have sb3_V4 := row_size gb3_V4
  have gn7_V4 := row_next2 gn7_V3 hHeld
  have sn7_V4 := row_size gn7_V4
  have gn8_V4 := row_next2 gn8_V3 hHeld
  have sn8_V4 := row_size gn8_V4
  have gn9_V4 := row_next2 gn9_V3 hHeld
  have sn9_V4 := row_size gn9_V4
  have hb_V4 := below_next hb_V3 hb_V3.size hHeld
  have gn10_V4 := xG10
  have sn10_V4 := row_size gn10_V4
  clear xG10
  have wG10 : w.heap.size + 4 ≤ G10 := by omega
  have nG7G10 : G7 ≠ G10 := by omega
  have nG8G10 : G8 ≠ G10 := by omega
  have nG9G10 : G9 ≠ G10 := by omega
  clear hHeld hb_V3 sb0_V3 sb1_V3 sb2_V3 sb3_V3 sn7_V3 sn8_V3 sn9_V3
  clear gb0_V3 gb1_V3 gb2_V3 gb3_V3 gn7_V3 gn8_V3 gn9_V3 lG10
  go_upto_region 5 with fail
  refine plain_start_c (S := fun W' => Below V4.heap.size V4 W') 3 (by kernel_rfl) (Below.refl _ _) (fun hHeld => ?_)
  refine c_read (i := 0) (oi := ⟨(some 51), _, _, _, _, _⟩) (v := _) rfl (by decide) (by kernel_rfl) (by kernel_rfl) (by kernel_rfl) (by kernel_rfl) (by kernel_rfl) (fun _ _ _ h => h) (yieldsIf_load_mid (by rfl) _ _ rfl G10 0 rfl (i64v v50) _ (fun W' hW' => range_row ((hW'.block _ sn10_V4).trans gn10_V4.out)) (Tryd.underlying55) rfl (by rw [i64v_len, h50.out]; kernel_rfl)) hHeld ?_
  try simp only [pu]
  refine c_read (i := 1) (oi := ⟨(some 52), _, _, _, _, _⟩) (v := _) rfl (by decide) (by kernel_rfl) (by kernel_rfl) (by kernel_rfl) (by kernel_rfl) (by kernel_rfl) (fun _ _ _ h => h) (yieldsIf_load_mid (by rfl) _ _ rfl G10 0 rfl (i64v v50) _ (fun W' hW' => range_row ((hW'.block _ sn10_V4).trans gn10_V4.out)) (Tryd.underlying55) rfl (by rw [i64v_len, h50.out]; kernel_rfl)) hHeld ?_
  try simp only [pu]
  refine c_step (i := 2) (o := ⟨(some 53), _, _, _, _, _⟩) (by kernel_rfl) rfl (fun K hK => ?_)
  go_simp
  refine (rplusE_any _ v50 v50 (e50.out) (e50.out)).mono ?_
  rintro e W19 ⟨v53, rfl, e53, h53, hb19⟩
  refine hK.out _ _ (below_next hHeld hHeld.size hb19) (fun hHeld => ?_)
  clear hK K hb19
  try simp only [pu]
  refine c_call (S' := fun _ => True) (o := ⟨none, _, _, _, _, _⟩) (by kernel_rfl) (by kernel_rfl) rfl (fun K hK => ?_)
  have cb0_0 := row_next2 gb0_V4 hHeld
  have cb1_0 := row_next2 gb1_V4 hHeld
  have cb2_0 := row_next2 gb2_V4 hHeld
  have cb3_0 := row_next2 gb3_V4 hHeld
  have cn7_0 := row_next2 gn7_V4 hHeld
  have cn8_0 := row_next2 gn8_V4 hHeld
  have cn9_0 := row_next2 gn9_V4 hHeld
  have cn10_0 := row_next2 gn10_V4 hHeld
  have cb_0 := below_next hb_V4 hb_V4.size hHeld
  clear hHeld
  refine step_row (by rfl) 55 (.tmp 10) (.tmp 53) rfl G10 (i64v v53) rfl rfl 55 _ cn10_0.out (by rw [i64v_len, h53.out]; kernel_rfl) (by rw [List.size_toArray, i64v_len, h50.out, i64v_len, h53.out]) (i64v_one _) ?_
  intro W20 cn10_1 kR
  refine hK.out _ _ trivial (fun hHeld => ?_)
  have cb0_1 := row_but cb0_0 kR (by omega)
  have cb1_1 := row_but cb1_0 kR (by omega)
  have cb2_1 := row_but cb2_0 kR (by omega)
  have cb3_1 := row_but cb3_0 kR (by omega)
  have cn7_1 := row_but cn7_0 kR (by omega)
  have cn8_1 := row_but cn8_0 kR (by omega)
  have cn9_1 := row_but cn9_0 kR (by omega)
  have cb_1 := But.below cb_0 kR (by omega) cb_0.size
  clear hK K kR cb_0 cb0_0 cb1_0 cb2_0 cb3_0 cn7_0 cn8_0 cn9_0 cn10_0 
  try simp only [pu]
  refine wpAnyH_done (by kernel_rfl) ?_ _
  obtain ⟨V5, rV5⟩ : ∃ X, X = W20 := ⟨_, rfl⟩
  subst rV5
  have gb0_V5 := cb0_1
  have sb0_V5 := row_size gb0_V5
  have gb1_V5 := cb1_1
  have sb1_V5 := row_size gb1_V5
  have gb2_V5 := cb2_1
  have sb2_V5 := row_size gb2_V5
  have gb3_V5 := cb3_1
  have sb3_V5 := row_size gb3_V5
  have gn7_V5 := cn7_1
  have sn7_V5 := row_size gn7_V5
  have gn8_V5 := cn8_1
  have sn8_V5 := row_size gn8_V5
  have gn9_V5 := cn9_1
  have sn9_V5 := row_size gn9_V5
  have gn10_V5 := cn10_1
  have sn10_V5 := row_size gn10_V5
  have hb_V5 := cb_1
  clear hHeld cb_1 hb_V4  cb0_1 cb1_1 cb2_1 cb3_1 cn7_1 cn8_1 cn9_1 cn10_1 sb0_V4 sb1_V4 sb2_V4 sb3_V4 sn7_V4 sn8_V4 sn9_V4 sn10_V4 gb0_V4 gb1_V4 gb2_V4 gb3_V4 gn7_V4 gn8_V4 gn9_V4 gn10_V4
  go_upto_region 6 with fail
  refine wp_region_held_drew (S := fun W' => Below V5.heap.size V5 W') (by kernel_rfl) ((Below.refl _ _).drew) (fun hHeld => ?_)
  refine wpAnyH_take (i := 0) (oi := ⟨(some 54), _, _, _, _, _⟩) (v := _) rfl (by kernel_rfl) (by kernel_rfl) (by kernel_rfl) (fun _ _ _ h => h) (yieldsIf_load_mid (by rfl) _ _ rfl G8 0 rfl (i64v v36) _ (fun W' hW' => range_row ((hW'.block _ sn8_V5).trans gn8_V5.out)) (Tryd.underlying55) rfl (by rw [i64v_len, h36.out]; kernel_rfl)) hHeld ?_
  try simp only [pu]
  refine wpAnyH_take (i := 1) (oi := ⟨(some 55), _, _, _, _, _⟩) (v := _) rfl (by kernel_rfl) (by kernel_rfl) (by kernel_rfl) (fun _ _ _ h => h) (yieldsIf_load_mid (by rfl) _ _ rfl G7 0 rfl (i64v v25) _ (fun W' hW' => range_row ((hW'.block _ sn7_V5).trans gn7_V5.out)) (Tryd.underlying55) rfl (by rw [i64v_len, h25.out]; kernel_rfl)) hHeld ?_
  try simp only [pu]
  refine wpAnyH_take (i := 3) (oi := ⟨(some 57), _, _, _, _, _⟩) (v := _) rfl (by kernel_rfl) (by kernel_rfl) (by kernel_rfl) (fun _ _ _ h => h) (yieldsIf_load_mid (by rfl) _ _ rfl G10 0 rfl (i64v v53) _ (fun W' hW' => range_row ((hW'.block _ sn10_V5).trans gn10_V5.out)) (Tryd.underlying55) rfl (by rw [i64v_len, h53.out]; kernel_rfl)) hHeld ?_
  try simp only [pu]
  refine wpAnyH_take (i := 4) (oi := ⟨(some 58), _, _, _, _, _⟩) (v := _) rfl (by kernel_rfl) (by kernel_rfl) (by kernel_rfl) (fun _ _ _ h => h) (yieldsIf_load_mid (by rfl) _ _ rfl G9 0 rfl (i64v v45) _ (fun W' hW' => range_row ((hW'.block _ sn9_V5).trans gn9_V5.out)) (Tryd.underlying55) rfl (by rw [i64v_len, h45.out]; kernel_rfl)) hHeld ?_
  try simp only [pu]
  refine wpAnyH_take (i := 6) (oi := ⟨(some 60), _, _, _, _, _⟩) (v := _) rfl (by kernel_rfl) (by kernel_rfl) (by kernel_rfl) (fun _ _ _ h => h) (yieldsIf_load_mid (by rfl) _ _ rfl G10 0 rfl (i64v v53) _ (fun W' hW' => range_row ((hW'.block _ sn10_V5).trans gn10_V5.out)) (Tryd.underlying55) rfl (by rw [i64v_len, h53.out]; kernel_rfl)) hHeld ?_
  try simp only [pu]
  refine wpAnyH_take (i := 7) (oi := ⟨(some 61), _, _, _, _, _⟩) (v := _) rfl (by kernel_rfl) (by kernel_rfl) (by kernel_rfl) (fun _ _ _ h => h) (yieldsIf_load_mid (by rfl) _ _ rfl G9 0 rfl (i64v v45) _ (fun W' hW' => range_row ((hW'.block _ sn9_V5).trans gn9_V5.out)) (Tryd.underlying55) rfl (by rw [i64v_len, h45.out]; kernel_rfl)) hHeld ?_
  try simp only [pu]
  refine wpAnyH_take (i := 9) (oi := ⟨(some 63), _, _, _, _, _⟩) (v := _) rfl (by kernel_rfl) (by kernel_rfl) (by kernel_rfl) (fun _ _ _ h => h) (yieldsIf_load_mid (by rfl) _ _ rfl G8 0 rfl (i64v v36) _ (fun W' hW' => range_row ((hW'.block _ sn8_V5).trans gn8_V5.out)) (Tryd.underlying55) rfl (by rw [i64v_len, h36.out]; kernel_rfl)) hHeld ?_
  try simp only [pu]
  refine wpAnyH_take (i := 10) (oi := ⟨(some 64), _, _, _, _, _⟩) (v := _) rfl (by kernel_rfl) (by kernel_rfl) (by kernel_rfl) (fun _ _ _ h => h) (yieldsIf_load_mid (by rfl) _ _ rfl G7 0 rfl (i64v v25) _ (fun W' hW' => range_row ((hW'.block _ sn7_V5).trans gn7_V5.out)) (Tryd.underlying55) rfl (by rw [i64v_len, h25.out]; kernel_rfl)) hHeld ?_
  try simp only [pu]
  refine mix_start (B := V5.heap.size) (al := [⟨12, 11, 55, ((i64v z16)).toArray⟩, ⟨13, 12, 55, ((i64v z16)).toArray⟩, ⟨14, 13, 55, ((i64v z16)).toArray⟩, ⟨15, 14, 55, ((i64v z16)).toArray⟩]) (fuel := 8) rfl hHeld (hHeld.size) ?_
  clear hHeld
  refine mix_call (i := 2) (o := ⟨(some 56), _, _, _, _, _⟩) rfl (by kernel_rfl) (by kernel_rfl) (by kernel_rfl) (by kernel_rfl) (fun x hx => by simp only [List.mem_cons, List.not_mem_nil, or_false] at hx; rcases hx with rfl | rfl | rfl | rfl <;> first | exact makes_new rfl rfl rfl rfl zero_fe) (fun W x _ h => h.alloc h.size _) (fun _ _ _ _ _ h => h) (fun X21 hHeld hBX K hK => ?_)
  go_simp
  refine (rminusE_any _ v36 v25 (e36.out) (e25.out)).mono ?_
  rintro e W21 ⟨v56, rfl, e56, h56, hb21⟩
  refine hK.out _ _ (below_next hHeld hHeld.size hb21) hb21 ?_
  clear hK K hHeld hBX hb21
  try simp only [pu]
  refine mix_call (i := 5) (o := ⟨(some 59), _, _, _, _, _⟩) rfl (by kernel_rfl) (by kernel_rfl) (by kernel_rfl) (by kernel_rfl) (fun x hx => by simp only [List.mem_cons, List.not_mem_nil, or_false] at hx; rcases hx with rfl | rfl | rfl | rfl <;> first | exact makes_new rfl rfl rfl rfl zero_fe) (fun W x _ h => h.alloc h.size _) (fun _ _ _ _ _ h => h) (fun X22 hHeld hBX K hK => ?_)
  go_simp
  refine (rminusE_any _ v53 v45 (e53.out) (e45.out)).mono ?_
  rintro e W22 ⟨v59, rfl, e59, h59, hb22⟩
  refine hK.out _ _ (below_next hHeld hHeld.size hb22) hb22 ?_
  clear hK K hHeld hBX hb22
  try simp only [pu]
  refine mix_call (i := 8) (o := ⟨(some 62), _, _, _, _, _⟩) rfl (by kernel_rfl) (by kernel_rfl) (by kernel_rfl) (by kernel_rfl) (fun x hx => by simp only [List.mem_cons, List.not_mem_nil, or_false] at hx; rcases hx with rfl | rfl | rfl | rfl <;> first | exact makes_new rfl rfl rfl rfl zero_fe) (fun W x _ h => h.alloc h.size _) (fun _ _ _ _ _ h => h) (fun X23 hHeld hBX K hK => ?_)
  go_simp
  refine (rplusE_any _ v53 v45 (e53.out) (e45.out)).mono ?_
  rintro e W23 ⟨v62, rfl, e62, h62, hb23⟩
  refine hK.out _ _ (below_next hHeld hHeld.size hb23) hb23 ?_
  clear hK K hHeld hBX hb23
  try simp only [pu]
  refine mix_call (i := 11) (o := ⟨(some 65), _, _, _, _, _⟩) rfl (by kernel_rfl) (by kernel_rfl) (by kernel_rfl) (by kernel_rfl) (fun x hx => by simp only [List.mem_cons, List.not_mem_nil, or_false] at hx; rcases hx with rfl | rfl | rfl | rfl <;> first | exact makes_new rfl rfl rfl rfl zero_fe) (fun W x _ h => h.alloc h.size _) (fun _ _ _ _ _ h => h) (fun X24 hHeld hBX K hK => ?_)
  go_simp
  refine (rplusE_any _ v36 v25 (e36.out) (e25.out)).mono ?_
  rintro e W24 ⟨v65, rfl, e65, h65, hb24⟩
  refine hK.out _ _ (below_next hHeld hHeld.size hb24) hb24 ?_
  clear hK K hHeld hBX hb24
  try simp only [pu]
  refine mix_end (by kernel_rfl) (by kernel_rfl) (by simp) (by simp) (fun x hx => by simp only [List.mem_cons, List.not_mem_nil, or_false] at hx; rcases hx with rfl | rfl | rfl | rfl <;> first | exact makes_new rfl rfl rfl rfl zero_fe) (fun W x _ h => h.alloc h.size _) (fun D hD W25 hHeld hBX hHo => ?_)
  obtain ⟨G11, G12, G13, G14, rfl⟩ := v_four hD
  have xG11 : Hid (W25.heap[G11]? = some (.cells ((i64v z16)).toArray 55 (0, 0))) := hHo.row (⟨12, 11, 55, ((i64v z16)).toArray⟩, G11) (by simp)
  have lG11 : V5.heap.size ≤ G11 := hHo.new (⟨12, 11, 55, ((i64v z16)).toArray⟩, G11) (by simp)
  have xG12 : Hid (W25.heap[G12]? = some (.cells ((i64v z16)).toArray 55 (0, 0))) := hHo.row (⟨13, 12, 55, ((i64v z16)).toArray⟩, G12) (by simp)
  have lG12 : V5.heap.size ≤ G12 := hHo.new (⟨13, 12, 55, ((i64v z16)).toArray⟩, G12) (by simp)
  have xG13 : Hid (W25.heap[G13]? = some (.cells ((i64v z16)).toArray 55 (0, 0))) := hHo.row (⟨14, 13, 55, ((i64v z16)).toArray⟩, G13) (by simp)
  have lG13 : V5.heap.size ≤ G13 := hHo.new (⟨14, 13, 55, ((i64v z16)).toArray⟩, G13) (by simp)
  have xG14 : Hid (W25.heap[G14]? = some (.cells ((i64v z16)).toArray 55 (0, 0))) := hHo.row (⟨15, 14, 55, ((i64v z16)).toArray⟩, G14) (by simp)
  have lG14 : V5.heap.size ≤ G14 := hHo.new (⟨15, 14, 55, ((i64v z16)).toArray⟩, G14) (by simp)
  have hnd := hHo.nodup
  simp only [List.map_cons, List.map_nil, List.nodup_cons, List.mem_cons, List.not_mem_nil, or_false, not_or, not_false_eq_true, List.nodup_nil, and_true] at hnd
  obtain ⟨⟨nG11G12, nG11G13, nG11G14⟩, ⟨nG12G13, nG12G14⟩, nG13G14⟩ := hnd
  clear hHo hBX hD
  simp only [markD, putD, List.foldr_cons, List.foldr_nil, pu, List.setIfInBounds_toArray, List.set_cons_zero, List.set_cons_succ]
  refine wpAnyH_ready (rs := [16]) (by kernel_rfl) (by simp) ?_
  refine AllReadyH.cons (i := 16) (o := ⟨none, _, _, _, _, _⟩) rfl (fun K hK => ?_) AllReadyH.nil
  refine step_row (by rfl) 55 (.tmp 11) (.tmp 56) rfl G11 (i64v v56) rfl rfl 55 _ xG11.out (by rw [i64v_len, h56.out]; kernel_rfl) (by rw [List.size_toArray, i64v_len, i64v_len, h56.out, (show z16.length = 16 from rfl)]) (i64v_one _) ?_
  intro W26 yG11 kG11
  have zG12 := row_but xG12 kG11 (by omega)
  clear xG12
  have xG12 := zG12
  clear zG12
  have zG13 := row_but xG13 kG11 (by omega)
  clear xG13
  have xG13 := zG13
  clear zG13
  have zG14 := row_but xG14 kG11 (by omega)
  clear xG14
  have xG14 := zG14
  clear zG14
  refine hK.out _ _ (But.below hHeld kG11 lG11 hHeld.size) (fun hHeld => ?_)
  clear hK K kG11 xG11
  have xG11 := yG11
  clear yG11
  try simp only [pu]
  refine wpAnyH_ready (rs := [17]) (by kernel_rfl) (by simp) ?_
  refine AllReadyH.cons (i := 17) (o := ⟨none, _, _, _, _, _⟩) rfl (fun K hK => ?_) AllReadyH.nil
  refine step_row (by rfl) 55 (.tmp 12) (.tmp 59) rfl G12 (i64v v59) rfl rfl 55 _ xG12.out (by rw [i64v_len, h59.out]; kernel_rfl) (by rw [List.size_toArray, i64v_len, i64v_len, h59.out, (show z16.length = 16 from rfl)]) (i64v_one _) ?_
  intro W27 yG12 kG12
  have zG11 := row_but xG11 kG12 (by omega)
  clear xG11
  have xG11 := zG11
  clear zG11
  have zG13 := row_but xG13 kG12 (by omega)
  clear xG13
  have xG13 := zG13
  clear zG13
  have zG14 := row_but xG14 kG12 (by omega)
  clear xG14
  have xG14 := zG14
  clear zG14
  refine hK.out _ _ (But.below hHeld kG12 lG12 hHeld.size) (fun hHeld => ?_)
  clear hK K kG12 xG12
  have xG12 := yG12
  clear yG12
  try simp only [pu]
  refine wpAnyH_ready (rs := [18]) (by kernel_rfl) (by simp) ?_
  refine AllReadyH.cons (i := 18) (o := ⟨none, _, _, _, _, _⟩) rfl (fun K hK => ?_) AllReadyH.nil
  refine step_row (by rfl) 55 (.tmp 13) (.tmp 62) rfl G13 (i64v v62) rfl rfl 55 _ xG13.out (by rw [i64v_len, h62.out]; kernel_rfl) (by rw [List.size_toArray, i64v_len, i64v_len, h62.out, (show z16.length = 16 from rfl)]) (i64v_one _) ?_
  intro W28 yG13 kG13
  have zG11 := row_but xG11 kG13 (by omega)
  clear xG11
  have xG11 := zG11
  clear zG11
  have zG12 := row_but xG12 kG13 (by omega)
  clear xG12
  have xG12 := zG12
  clear zG12
  have zG14 := row_but xG14 kG13 (by omega)
  clear xG14
  have xG14 := zG14
  clear zG14
  refine hK.out _ _ (But.below hHeld kG13 lG13 hHeld.size) (fun hHeld => ?_)
  clear hK K kG13 xG13
  have xG13 := yG13
  clear yG13
  try simp only [pu]
  refine wpAnyH_ready (rs := [19]) (by kernel_rfl) (by simp) ?_
  refine AllReadyH.cons (i := 19) (o := ⟨none, _, _, _, _, _⟩) rfl (fun K hK => ?_) AllReadyH.nil
  refine step_row (by rfl) 55 (.tmp 14) (.tmp 65) rfl G14 (i64v v65) rfl rfl 55 _ xG14.out (by rw [i64v_len, h65.out]; kernel_rfl) (by rw [List.size_toArray, i64v_len, i64v_len, h65.out, (show z16.length = 16 from rfl)]) (i64v_one _) ?_
  intro W29 yG14 kG14
  have zG11 := row_but xG11 kG14 (by omega)
  clear xG11
  have xG11 := zG11
  clear zG11
  have zG12 := row_but xG12 kG14 (by omega)
  clear xG12
  have xG12 := zG12
  clear zG12
  have zG13 := row_but xG13 kG14 (by omega)
  clear xG13
  have xG13 := zG13
  clear zG13
  refine hK.out _ _ (But.below hHeld kG14 lG14 hHeld.size) (fun hHeld => ?_)
  clear hK K kG14 xG14
  have xG14 := yG14
  clear yG14
  try simp only [pu]
  refine wpAnyH_done (by kernel_rfl) ?_ _
  obtain ⟨V6, rV6⟩ : ∃ X, X = W29 := ⟨_, rfl⟩
  subst rV6
  have gb0_V6 := row_next2 gb0_V5 hHeld
  have sb0_V6 := row_size gb0_V6
  have gb1_V6 := row_next2 gb1_V5 hHeld
  have sb1_V6 := row_size gb1_V6
  have gb2_V6 := row_next2 gb2_V5 hHeld
  have sb2_V6 := row_size gb2_V6
  have gb3_V6 := row_next2 gb3_V5 hHeld
  have sb3_V6 := row_size gb3_V6
  have gn7_V6 := row_next2 gn7_V5 hHeld
  have sn7_V6 := row_size gn7_V6
  have gn8_V6 := row_next2 gn8_V5 hHeld
  have sn8_V6 := row_size gn8_V6
  have gn9_V6 := row_next2 gn9_V5 hHeld
  have sn9_V6 := row_size gn9_V6
  have gn10_V6 := row_next2 gn10_V5 hHeld
  have sn10_V6 := row_size gn10_V6
  have hb_V6 := below_next hb_V5 hb_V5.size hHeld
  have gn11_V6 := xG11
  have sn11_V6 := row_size gn11_V6
  clear xG11
  have gn12_V6 := xG12
  have sn12_V6 := row_size gn12_V6
  clear xG12
  have gn13_V6 := xG13
  have sn13_V6 := row_size gn13_V6
  clear xG13
  have gn14_V6 := xG14
  have sn14_V6 := row_size gn14_V6
  clear xG14
  have wG11 : w.heap.size + 4 ≤ G11 := by omega
  have wG12 : w.heap.size + 4 ≤ G12 := by omega
  have wG13 : w.heap.size + 4 ≤ G13 := by omega
  have wG14 : w.heap.size + 4 ≤ G14 := by omega
  have nG7G11 : G7 ≠ G11 := by omega
  have nG8G11 : G8 ≠ G11 := by omega
  have nG9G11 : G9 ≠ G11 := by omega
  have nG10G11 : G10 ≠ G11 := by omega
  have nG7G12 : G7 ≠ G12 := by omega
  have nG8G12 : G8 ≠ G12 := by omega
  have nG9G12 : G9 ≠ G12 := by omega
  have nG10G12 : G10 ≠ G12 := by omega
  have nG7G13 : G7 ≠ G13 := by omega
  have nG8G13 : G8 ≠ G13 := by omega
  have nG9G13 : G9 ≠ G13 := by omega
  have nG10G13 : G10 ≠ G13 := by omega
  have nG7G14 : G7 ≠ G14 := by omega
  have nG8G14 : G8 ≠ G14 := by omega
  have nG9G14 : G9 ≠ G14 := by omega
  have nG10G14 : G10 ≠ G14 := by omega
  clear hHeld hb_V5 sb0_V5 sb1_V5 sb2_V5 sb3_V5 sn7_V5 sn8_V5 sn9_V5 sn10_V5
  clear gb0_V5 gb1_V5 gb2_V5 gb3_V5 gn7_V5 gn8_V5 gn9_V5 gn10_V5 lG11 lG12 lG13 lG14
  go_upto_region 7 with fail
  refine c_start (S := fun W' => Below V6.heap.size V6 W') 13 (by kernel_rfl) ((Below.refl _ _).drew) (fun hHeld => ?_)
  refine c_read (i := 0) (oi := ⟨(some 66), _, _, _, _, _⟩) (v := _) rfl (by decide) (by kernel_rfl) (by kernel_rfl) (by kernel_rfl) (by kernel_rfl) (by kernel_rfl) (fun _ _ _ h => h) (yieldsIf_load_mid (by rfl) _ _ rfl G11 0 rfl (i64v v56) _ (fun W' hW' => range_row ((hW'.block _ sn11_V6).trans gn11_V6.out)) (Tryd.underlying55) rfl (by rw [i64v_len, h56.out]; kernel_rfl)) hHeld ?_
  try simp only [pu]
  refine c_read (i := 1) (oi := ⟨(some 67), _, _, _, _, _⟩) (v := _) rfl (by decide) (by kernel_rfl) (by kernel_rfl) (by kernel_rfl) (by kernel_rfl) (by kernel_rfl) (fun _ _ _ h => h) (yieldsIf_load_mid (by rfl) _ _ rfl G12 0 rfl (i64v v59) _ (fun W' hW' => range_row ((hW'.block _ sn12_V6).trans gn12_V6.out)) (Tryd.underlying55) rfl (by rw [i64v_len, h59.out]; kernel_rfl)) hHeld ?_
  try simp only [pu]
  refine c_read (i := 3) (oi := ⟨(some 69), _, _, _, _, _⟩) (v := _) rfl (by decide) (by kernel_rfl) (by kernel_rfl) (by kernel_rfl) (by kernel_rfl) (by kernel_rfl) (fun _ _ _ h => h) (yieldsIf_load_mid (by rfl) _ _ rfl G14 0 rfl (i64v v65) _ (fun W' hW' => range_row ((hW'.block _ sn14_V6).trans gn14_V6.out)) (Tryd.underlying55) rfl (by rw [i64v_len, h65.out]; kernel_rfl)) hHeld ?_
  try simp only [pu]
  refine c_read (i := 4) (oi := ⟨(some 70), _, _, _, _, _⟩) (v := _) rfl (by decide) (by kernel_rfl) (by kernel_rfl) (by kernel_rfl) (by kernel_rfl) (by kernel_rfl) (fun _ _ _ h => h) (yieldsIf_load_mid (by rfl) _ _ rfl G13 0 rfl (i64v v62) _ (fun W' hW' => range_row ((hW'.block _ sn13_V6).trans gn13_V6.out)) (Tryd.underlying55) rfl (by rw [i64v_len, h62.out]; kernel_rfl)) hHeld ?_
  try simp only [pu]
  refine c_read (i := 6) (oi := ⟨(some 72), _, _, _, _, _⟩) (v := _) rfl (by decide) (by kernel_rfl) (by kernel_rfl) (by kernel_rfl) (by kernel_rfl) (by kernel_rfl) (fun _ _ _ h => h) (yieldsIf_load_mid (by rfl) _ _ rfl G13 0 rfl (i64v v62) _ (fun W' hW' => range_row ((hW'.block _ sn13_V6).trans gn13_V6.out)) (Tryd.underlying55) rfl (by rw [i64v_len, h62.out]; kernel_rfl)) hHeld ?_
  try simp only [pu]
  refine c_read (i := 7) (oi := ⟨(some 73), _, _, _, _, _⟩) (v := _) rfl (by decide) (by kernel_rfl) (by kernel_rfl) (by kernel_rfl) (by kernel_rfl) (by kernel_rfl) (fun _ _ _ h => h) (yieldsIf_load_mid (by rfl) _ _ rfl G12 0 rfl (i64v v59) _ (fun W' hW' => range_row ((hW'.block _ sn12_V6).trans gn12_V6.out)) (Tryd.underlying55) rfl (by rw [i64v_len, h59.out]; kernel_rfl)) hHeld ?_
  try simp only [pu]
  refine c_read (i := 9) (oi := ⟨(some 75), _, _, _, _, _⟩) (v := _) rfl (by decide) (by kernel_rfl) (by kernel_rfl) (by kernel_rfl) (by kernel_rfl) (by kernel_rfl) (fun _ _ _ h => h) (yieldsIf_load_mid (by rfl) _ _ rfl G11 0 rfl (i64v v56) _ (fun W' hW' => range_row ((hW'.block _ sn11_V6).trans gn11_V6.out)) (Tryd.underlying55) rfl (by rw [i64v_len, h56.out]; kernel_rfl)) hHeld ?_
  try simp only [pu]
  refine c_read (i := 10) (oi := ⟨(some 76), _, _, _, _, _⟩) (v := _) rfl (by decide) (by kernel_rfl) (by kernel_rfl) (by kernel_rfl) (by kernel_rfl) (by kernel_rfl) (fun _ _ _ h => h) (yieldsIf_load_mid (by rfl) _ _ rfl G14 0 rfl (i64v v65) _ (fun W' hW' => range_row ((hW'.block _ sn14_V6).trans gn14_V6.out)) (Tryd.underlying55) rfl (by rw [i64v_len, h65.out]; kernel_rfl)) hHeld ?_
  try simp only [pu]
  refine c_step (i := 2) (o := ⟨(some 68), _, _, _, _, _⟩) (by kernel_rfl) rfl (fun K hK => ?_)
  go_simp
  refine (rtimesE_any _ v56 v59 (e56.out) (e59.out)).mono ?_
  rintro e W30 ⟨v68, rfl, e68, h68, hb30⟩
  refine hK.out _ _ (below_next hHeld hHeld.size hb30) (fun hHeld => ?_)
  clear hK K hb30
  try simp only [pu]
  refine c_step (i := 5) (o := ⟨(some 71), _, _, _, _, _⟩) (by kernel_rfl) rfl (fun K hK => ?_)
  go_simp
  refine (rtimesE_any _ v65 v62 (e65.out) (e62.out)).mono ?_
  rintro e W31 ⟨v71, rfl, e71, h71, hb31⟩
  refine hK.out _ _ (below_next hHeld hHeld.size hb31) (fun hHeld => ?_)
  clear hK K hb31
  try simp only [pu]
  refine c_step (i := 8) (o := ⟨(some 74), _, _, _, _, _⟩) (by kernel_rfl) rfl (fun K hK => ?_)
  go_simp
  refine (rtimesE_any _ v62 v59 (e62.out) (e59.out)).mono ?_
  rintro e W32 ⟨v74, rfl, e74, h74, hb32⟩
  refine hK.out _ _ (below_next hHeld hHeld.size hb32) (fun hHeld => ?_)
  clear hK K hb32
  try simp only [pu]
  refine c_step (i := 11) (o := ⟨(some 77), _, _, _, _, _⟩) (by kernel_rfl) rfl (fun K hK => ?_)
  go_simp
  refine (rtimesE_any _ v56 v65 (e56.out) (e65.out)).mono ?_
  rintro e W33 ⟨v77, rfl, e77, h77, hb33⟩
  refine hK.out _ _ (below_next hHeld hHeld.size hb33) (fun hHeld => ?_)
  clear hK K hb33
  try simp only [pu]
  obtain ⟨p12, ep12⟩ : ∃ p, p = v68 ++ (v71 ++ (v74 ++ (v77))) := ⟨_, rfl⟩
  have bp12 := built_point v68 v71 v74 v77 (h68.out) (h71.out) (h74.out) (h77.out)
  rw [← ep12] at bp12
  have hp12 := Lib.hid (show p12.length = 64 by rw [ep12]; simp [h68.out, h71.out, h74.out, h77.out])
  have vp12 := vlt ep12
  clear ep12
  refine c_take (i := 12) (oi := ⟨(some 78), _, _, _, _, _⟩) (v := _) rfl (by decide) (by kernel_rfl) (by kernel_rfl) (by kernel_rfl) (fun _ _ _ h => h) (yields_build (by rfl) _ _ rfl [(0, .agg (i64v v68).toArray), (1, .agg (i64v v71).toArray), (2, .agg (i64v v74).toArray), (3, .agg (i64v v77).toArray)] (by rfl) _ bp12) hHeld ?_
  try simp only [pu]
  refine c_call (S' := fun _ => True) (o := ⟨none, _, _, _, _, _⟩) (by kernel_rfl) (by kernel_rfl) rfl (fun K hK => ?_)
  have cb0_0 := row_next2 gb0_V6 hHeld
  have cb1_0 := row_next2 gb1_V6 hHeld
  have cb2_0 := row_next2 gb2_V6 hHeld
  have cb3_0 := row_next2 gb3_V6 hHeld
  have cn7_0 := row_next2 gn7_V6 hHeld
  have cn8_0 := row_next2 gn8_V6 hHeld
  have cn9_0 := row_next2 gn9_V6 hHeld
  have cn10_0 := row_next2 gn10_V6 hHeld
  have cn11_0 := row_next2 gn11_V6 hHeld
  have cn12_0 := row_next2 gn12_V6 hHeld
  have cn13_0 := row_next2 gn13_V6 hHeld
  have cn14_0 := row_next2 gn14_V6 hHeld
  have cb_0 := below_next hb_V6 hb_V6.size hHeld
  clear hHeld
  refine step_row (by rfl) 57 (.tmp 6) (.tmp 78) rfl (w.heap.size + 3) (i64v p12) rfl rfl 57 _ cb3_0.out (by rw [i64v_len, hp12.out]; kernel_rfl) (by rw [List.size_toArray, i64v_len, z64i_len, i64v_len, hp12.out]) (i64v_one _) ?_
  intro W34 cb3_1 kR
  refine hK.out _ _ trivial (fun hHeld => ?_)
  have cb0_1 := row_but cb0_0 kR (by omega)
  have cb1_1 := row_but cb1_0 kR (by omega)
  have cb2_1 := row_but cb2_0 kR (by omega)
  have cn7_1 := row_but cn7_0 kR (by omega)
  have cn8_1 := row_but cn8_0 kR (by omega)
  have cn9_1 := row_but cn9_0 kR (by omega)
  have cn10_1 := row_but cn10_0 kR (by omega)
  have cn11_1 := row_but cn11_0 kR (by omega)
  have cn12_1 := row_but cn12_0 kR (by omega)
  have cn13_1 := row_but cn13_0 kR (by omega)
  have cn14_1 := row_but cn14_0 kR (by omega)
  have cb_1 := But.below cb_0 kR (by omega) cb_0.size
  clear hK K kR cb_0 cb0_0 cb1_0 cb2_0 cb3_0 cn7_0 cn8_0 cn9_0 cn10_0 cn11_0 cn12_0 cn13_0 cn14_0 
  try simp only [pu]
  refine wpAnyH_done (by kernel_rfl) ?_ _
  obtain ⟨V7, rV7⟩ : ∃ X, X = W34 := ⟨_, rfl⟩
  subst rV7
  have gb0_V7 := cb0_1
  have sb0_V7 := row_size gb0_V7
  have gb1_V7 := cb1_1
  have sb1_V7 := row_size gb1_V7
  have gb2_V7 := cb2_1
  have sb2_V7 := row_size gb2_V7
  have gb3_V7 := cb3_1
  have sb3_V7 := row_size gb3_V7
  have gn7_V7 := cn7_1
  have sn7_V7 := row_size gn7_V7
  have gn8_V7 := cn8_1
  have sn8_V7 := row_size gn8_V7
  have gn9_V7 := cn9_1
  have sn9_V7 := row_size gn9_V7
  have gn10_V7 := cn10_1
  have sn10_V7 := row_size gn10_V7
  have gn11_V7 := cn11_1
  have sn11_V7 := row_size gn11_V7
  have gn12_V7 := cn12_1
  have sn12_V7 := row_size gn12_V7
  have gn13_V7 := cn13_1
  have sn13_V7 := row_size gn13_V7
  have gn14_V7 := cn14_1
  have sn14_V7 := row_size gn14_V7
  have hb_V7 := cb_1
  clear hHeld cb_1 hb_V6  cb0_1 cb1_1 cb2_1 cb3_1 cn7_1 cn8_1 cn9_1 cn10_1 cn11_1 cn12_1 cn13_1 cn14_1 sb0_V6 sb1_V6 sb2_V6 sb3_V6 sn7_V6 sn8_V6 sn9_V6 sn10_V6 sn11_V6 sn12_V6 sn13_V6 sn14_V6 gb0_V6 gb1_V6 gb2_V6 gb3_V6 gn7_V6 gn8_V6 gn9_V6 gn10_V6 gn11_V6 gn12_V6 gn13_V6 gn14_V6
  have HF := vlt (show PoX p12 (addE P Q) from poX_four vp12.out e68.out e71.out e74.out e77.out (rep_add Qp.out.on Qq.out.on Qp.out.rep Qq.out.rep rfl rfl rfl rfl rfl rfl rfl rfl) (addE_on Qp.out.on Qq.out.on))
  go_wp2_with fail
  refine bodyPost_ret (v := .agg (i64v p12).toArray) (results_cell_row Tryd.results36 _ _ (w.heap.size + 3) 57 _ (0, 0) _ rfl gb3_V7.out Tryd.underlying57 rfl (by rw [List.size_toArray, i64v_len, hp12.out]; kernel_rfl)) rfl ⟨p12, rfl, HF, hp12, hb_V7⟩
end Go.Proofs.YtehkalbiomagjaaDoor
namespace Go.Proofs.YtehkalbiomagjaaDoor
open Go.RowKit

set_option maxRecDepth 100000 in
set_option maxHeartbeats 4000000 in
theorem rencode_any (w : World) (p : List Int) {P : PtE} (hlp : p.length = 64) (hp : PoX p P) :
    Calls Tryd.prog 35 #[.agg (i64v p).toArray] w fun e w' => ∃ l, e = .returned (.agg (bv l).toArray) ∧ Vlt (l = encE P) ∧ Hid (l.length = 32) ∧ Below w.heap.size w w' := by
  have hzf := zero_fe
  have hzw := zero_word
  obtain ⟨Xp, Yp, Zp, Tp, kp⟩ := hp
  have Qp := vlt kp
  have Fp0 := vlt kp.x
  have Lp0 := Lib.hid kp.x.len
  have Fp1 := vlt kp.y
  have Lp1 := Lib.hid kp.y.len
  have Fp2 := vlt kp.z
  have Lp2 := Lib.hid kp.z.len
  have Fp3 := vlt kp.t
  have Lp3 := Lib.hid kp.t.len
  clear kp
  obtain ⟨V0, hW, gb0_V0, gb1_V0, hb_V0, hsW⟩ := pair_new w (i64v p).toArray (bv z32).toArray 57 23
  have HW := Lib.hid hW
  have Hhlp := Lib.hid hlp
  have sb0_V0 := row_size gb0_V0
  have sb1_V0 := row_size gb1_V0
  clear hW hsW hlp
  go_enter Tryd.func35, Tryd.ntmps35
  go_upto_region 1 with fail
  rw [HW.out]
  refine plain_start (S := fun W' => Below V0.heap.size V0 W') (by kernel_rfl) (Below.refl _ _) (fun hHeld => ?_)
  refine wpAnyH_take (i := 0) (oi := ⟨(some 6), _, _, _, _, _⟩) (v := ?vqV0_1_0) rfl (by kernel_rfl) (by kernel_rfl) (by kernel_rfl) (fun _ _ _ h => h) (Or.inl ⟨by rfl, ?yqV0_1_0⟩) hHeld ?_
  case yqV0_1_0 => (intro W0 hSw; go_simp; try with_reducible rfl)
  try simp only [pu]
  refine wpAnyH_take (i := 1) (oi := ⟨(some 7), _, _, _, _, _⟩) (v := _) rfl (by kernel_rfl) (by kernel_rfl) (by kernel_rfl) (fun _ _ _ h => h) (yieldsIf_load_mid (by rfl) _ _ rfl (w.heap.size) 32 rfl (i64v (subI p 32 16)) _ (fun W' hW' => range_subI ((hW'.block _ sb0_V0).trans gb0_V0.out)) (Tryd.underlying55) rfl (by rw [i64v_len, Lp2.out]; kernel_rfl)) hHeld ?_
  try simp only [pu]
  refine mix_start (B := V0.heap.size) (al := [⟨3, 3, 55, ((i64v z16)).toArray⟩]) (fuel := 2) rfl hHeld (hHeld.size) ?_
  clear hHeld
  refine mix_call (i := 2) (o := ⟨(some 8), _, _, _, _, _⟩) rfl (by kernel_rfl) (by kernel_rfl) (by kernel_rfl) (by kernel_rfl) (fun x hx => by simp only [List.mem_cons, List.not_mem_nil, or_false] at hx; rcases hx with rfl <;> first | exact makes_new rfl rfl rfl rfl zero_fe) (fun W x _ h => h.alloc h.size _) (fun _ _ _ _ _ h => h) (fun X1 hHeld hBX K hK => ?_)
  go_simp
  refine (rinvE_any _ (subI p 32 16) (Fp2.out)).mono ?_
  rintro e W1 ⟨v8, rfl, e8, h8, hb1⟩
  refine hK.out _ _ (below_next hHeld hHeld.size hb1) hb1 ?_
  clear hK K hHeld hBX hb1
  try simp only [pu]
  refine mix_end (by kernel_rfl) (by kernel_rfl) (by simp) (by simp) (fun x hx => by simp only [List.mem_cons, List.not_mem_nil, or_false] at hx; rcases hx with rfl <;> first | exact makes_new rfl rfl rfl rfl zero_fe) (fun W x _ h => h.alloc h.size _) (fun D hD W2 hHeld hBX hHo => ?_)
  obtain ⟨G3, rfl⟩ := v_one hD
  have xG3 : Hid (W2.heap[G3]? = some (.cells ((i64v z16)).toArray 55 (0, 0))) := hHo.row (⟨3, 3, 55, ((i64v z16)).toArray⟩, G3) (by simp)
  have lG3 : V0.heap.size ≤ G3 := hHo.new (⟨3, 3, 55, ((i64v z16)).toArray⟩, G3) (by simp)
  clear hHo hBX hD
  simp only [markD, putD, List.foldr_cons, List.foldr_nil, pu, List.setIfInBounds_toArray, List.set_cons_zero, List.set_cons_succ]
  refine wpAnyH_ready (rs := [4]) (by kernel_rfl) (by simp) ?_
  refine AllReadyH.cons (i := 4) (o := ⟨none, _, _, _, _, _⟩) rfl (fun K hK => ?_) AllReadyH.nil
  refine step_row (by rfl) 55 (.tmp 3) (.tmp 8) rfl G3 (i64v v8) rfl rfl 55 _ xG3.out (by rw [i64v_len, h8.out]; kernel_rfl) (by rw [List.size_toArray, i64v_len, i64v_len, h8.out, (show z16.length = 16 from rfl)]) (i64v_one _) ?_
  intro W3 yG3 kG3
  refine hK.out _ _ (But.below hHeld kG3 lG3 hHeld.size) (fun hHeld => ?_)
  clear hK K kG3 xG3
  have xG3 := yG3
  clear yG3
  try simp only [pu]
  refine wpAnyH_done (by kernel_rfl) ?_ _
  obtain ⟨V1, rV1⟩ : ∃ X, X = W3 := ⟨_, rfl⟩
  subst rV1
  have gb0_V1 := row_next2 gb0_V0 hHeld
  have sb0_V1 := row_size gb0_V1
  have gb1_V1 := row_next2 gb1_V0 hHeld
  have sb1_V1 := row_size gb1_V1
  have hb_V1 := below_next hb_V0 hb_V0.size hHeld
  have gn3_V1 := xG3
  have sn3_V1 := row_size gn3_V1
  clear xG3
  have wG3 : w.heap.size + 2 ≤ G3 := by omega
  clear hHeld hb_V0 sb0_V0 sb1_V0
  clear gb0_V0 gb1_V0 lG3
  go_upto_region 2 with fail
  refine wp_region_held_drew (S := fun W' => Below V1.heap.size V1 W') (by kernel_rfl) ((Below.refl _ _).drew) (fun hHeld => ?_)
  refine wpAnyH_take (i := 0) (oi := ⟨(some 9), _, _, _, _, _⟩) (v := ?vqV1_2_0) rfl (by kernel_rfl) (by kernel_rfl) (by kernel_rfl) (fun _ _ _ h => h) (Or.inl ⟨by rfl, ?yqV1_2_0⟩) hHeld ?_
  case yqV1_2_0 => (intro W0 hSw; go_simp; try with_reducible rfl)
  try simp only [pu]
  refine wpAnyH_take (i := 1) (oi := ⟨(some 10), _, _, _, _, _⟩) (v := _) rfl (by kernel_rfl) (by kernel_rfl) (by kernel_rfl) (fun _ _ _ h => h) (yieldsIf_load_mid (by rfl) _ _ rfl (w.heap.size) 0 rfl (i64v (subI p 0 16)) _ (fun W' hW' => range_subI ((hW'.block _ sb0_V1).trans gb0_V1.out)) (Tryd.underlying55) rfl (by rw [i64v_len, Lp0.out]; kernel_rfl)) hHeld ?_
  try simp only [pu]
  refine wpAnyH_take (i := 2) (oi := ⟨(some 11), _, _, _, _, _⟩) (v := _) rfl (by kernel_rfl) (by kernel_rfl) (by kernel_rfl) (fun _ _ _ h => h) (yieldsIf_load_mid (by rfl) _ _ rfl G3 0 rfl (i64v v8) _ (fun W' hW' => range_row ((hW'.block _ sn3_V1).trans gn3_V1.out)) (Tryd.underlying55) rfl (by rw [i64v_len, h8.out]; kernel_rfl)) hHeld ?_
  try simp only [pu]
  refine wpAnyH_take (i := 5) (oi := ⟨(some 14), _, _, _, _, _⟩) (v := ?vqV1_2_5) rfl (by kernel_rfl) (by kernel_rfl) (by kernel_rfl) (fun _ _ _ h => h) (Or.inl ⟨by rfl, ?yqV1_2_5⟩) hHeld ?_
  case yqV1_2_5 => (intro W0 hSw; go_simp; try with_reducible rfl)
  try simp only [pu]
  refine wpAnyH_take (i := 6) (oi := ⟨(some 15), _, _, _, _, _⟩) (v := _) rfl (by kernel_rfl) (by kernel_rfl) (by kernel_rfl) (fun _ _ _ h => h) (yieldsIf_load_mid (by rfl) _ _ rfl (w.heap.size) 16 rfl (i64v (subI p 16 16)) _ (fun W' hW' => range_subI ((hW'.block _ sb0_V1).trans gb0_V1.out)) (Tryd.underlying55) rfl (by rw [i64v_len, Lp1.out]; kernel_rfl)) hHeld ?_
  try simp only [pu]
  refine wpAnyH_take (i := 7) (oi := ⟨(some 16), _, _, _, _, _⟩) (v := _) rfl (by kernel_rfl) (by kernel_rfl) (by kernel_rfl) (fun _ _ _ h => h) (yieldsIf_load_mid (by rfl) _ _ rfl G3 0 rfl (i64v v8) _ (fun W' hW' => range_row ((hW'.block _ sn3_V1).trans gn3_V1.out)) (Tryd.underlying55) rfl (by rw [i64v_len, h8.out]; kernel_rfl)) hHeld ?_
  try simp only [pu]
  refine mix_start (B := V1.heap.size) (al := [⟨10, 4, 23, ((bv z32)).toArray⟩, ⟨11, 5, 23, ((bv z32)).toArray⟩]) (fuel := 6) rfl hHeld (hHeld.size) ?_
  clear hHeld
  refine mix_call (i := 3) (o := ⟨(some 12), _, _, _, _, _⟩) rfl (by kernel_rfl) (by kernel_rfl) (by kernel_rfl) (by kernel_rfl) (fun x hx => by simp only [List.mem_cons, List.not_mem_nil, or_false] at hx; rcases hx with rfl | rfl <;> first | exact makes_new rfl rfl rfl rfl zero_word) (fun W x _ h => h.alloc h.size _) (fun _ _ _ _ _ h => h) (fun X4 hHeld hBX K hK => ?_)
  go_simp
  refine (rtimesE_any _ (subI p 0 16) v8 (Fp0.out) (e8.out)).mono ?_
  rintro e W4 ⟨v12, rfl, e12, h12, hb4⟩
  refine hK.out _ _ (below_next hHeld hHeld.size hb4) hb4 ?_
  clear hK K hHeld hBX hb4
  try simp only [pu]
  refine mix_call (i := 4) (o := ⟨(some 13), _, _, _, _, _⟩) rfl (by kernel_rfl) (by kernel_rfl) (by kernel_rfl) (by kernel_rfl) (fun x hx => by simp only [List.mem_cons, List.not_mem_nil, or_false] at hx; rcases hx with rfl | rfl <;> first | exact makes_new rfl rfl rfl rfl zero_word) (fun W x _ h => h.alloc h.size _) (fun _ _ _ _ _ h => h) (fun X5 hHeld hBX K hK => ?_)
  go_simp
  refine (routE_any _ v12 (e12.out)).mono ?_
  rintro e W5 ⟨v13, rfl, e13, h13, hb5⟩
  refine hK.out _ _ (below_next hHeld hHeld.size hb5) hb5 ?_
  clear hK K hHeld hBX hb5
  try simp only [pu]
  refine mix_call (i := 8) (o := ⟨(some 17), _, _, _, _, _⟩) rfl (by kernel_rfl) (by kernel_rfl) (by kernel_rfl) (by kernel_rfl) (fun x hx => by simp only [List.mem_cons, List.not_mem_nil, or_false] at hx; rcases hx with rfl | rfl <;> first | exact makes_new rfl rfl rfl rfl zero_word) (fun W x _ h => h.alloc h.size _) (fun _ _ _ _ _ h => h) (fun X6 hHeld hBX K hK => ?_)
  go_simp
  refine (rtimesE_any _ (subI p 16 16) v8 (Fp1.out) (e8.out)).mono ?_
  rintro e W6 ⟨v17, rfl, e17, h17, hb6⟩
  refine hK.out _ _ (below_next hHeld hHeld.size hb6) hb6 ?_
  clear hK K hHeld hBX hb6
  try simp only [pu]
  refine mix_call (i := 9) (o := ⟨(some 18), _, _, _, _, _⟩) rfl (by kernel_rfl) (by kernel_rfl) (by kernel_rfl) (by kernel_rfl) (fun x hx => by simp only [List.mem_cons, List.not_mem_nil, or_false] at hx; rcases hx with rfl | rfl <;> first | exact makes_new rfl rfl rfl rfl zero_word) (fun W x _ h => h.alloc h.size _) (fun _ _ _ _ _ h => h) (fun X7 hHeld hBX K hK => ?_)
  go_simp
  refine (routE_any _ v17 (e17.out)).mono ?_
  rintro e W7 ⟨v18, rfl, e18, h18, hb7⟩
  refine hK.out _ _ (below_next hHeld hHeld.size hb7) hb7 ?_
  clear hK K hHeld hBX hb7
  try simp only [pu]
  refine mix_end (by kernel_rfl) (by kernel_rfl) (by simp) (by simp) (fun x hx => by simp only [List.mem_cons, List.not_mem_nil, or_false] at hx; rcases hx with rfl | rfl <;> first | exact makes_new rfl rfl rfl rfl zero_word) (fun W x _ h => h.alloc h.size _) (fun D hD W8 hHeld hBX hHo => ?_)
  obtain ⟨G4, G5, rfl⟩ := v_two hD
  have xG4 : Hid (W8.heap[G4]? = some (.cells ((bv z32)).toArray 23 (0, 0))) := hHo.row (⟨10, 4, 23, ((bv z32)).toArray⟩, G4) (by simp)
  have lG4 : V1.heap.size ≤ G4 := hHo.new (⟨10, 4, 23, ((bv z32)).toArray⟩, G4) (by simp)
  have xG5 : Hid (W8.heap[G5]? = some (.cells ((bv z32)).toArray 23 (0, 0))) := hHo.row (⟨11, 5, 23, ((bv z32)).toArray⟩, G5) (by simp)
  have lG5 : V1.heap.size ≤ G5 := hHo.new (⟨11, 5, 23, ((bv z32)).toArray⟩, G5) (by simp)
  have hnd := hHo.nodup
  simp only [List.map_cons, List.map_nil, List.nodup_cons, List.mem_cons, List.not_mem_nil, or_false, not_false_eq_true, List.nodup_nil, and_true] at hnd
  have nG4G5 := hnd
  clear hnd
  clear hHo hBX hD
  simp only [markD, putD, List.foldr_cons, List.foldr_nil, pu, List.setIfInBounds_toArray, List.set_cons_zero, List.set_cons_succ]
  refine wpAnyH_ready (rs := [12]) (by kernel_rfl) (by simp) ?_
  refine AllReadyH.cons (i := 12) (o := ⟨none, _, _, _, _, _⟩) rfl (fun K hK => ?_) AllReadyH.nil
  refine step_row (by rfl) 23 (.tmp 4) (.tmp 13) rfl G4 (bv v13) rfl rfl 23 _ xG4.out (by rw [bv_len, h13.out]; kernel_rfl) (by rw [List.size_toArray, bv_len, bv_len, h13.out, z32_len]) (bv_one _) ?_
  intro W9 yG4 kG4
  have zG5 := row_but xG5 kG4 (by omega)
  clear xG5
  have xG5 := zG5
  clear zG5
  refine hK.out _ _ (But.below hHeld kG4 lG4 hHeld.size) (fun hHeld => ?_)
  clear hK K kG4 xG4
  have xG4 := yG4
  clear yG4
  try simp only [pu]
  refine wpAnyH_ready (rs := [13]) (by kernel_rfl) (by simp) ?_
  refine AllReadyH.cons (i := 13) (o := ⟨none, _, _, _, _, _⟩) rfl (fun K hK => ?_) AllReadyH.nil
  refine step_row (by rfl) 23 (.tmp 5) (.tmp 18) rfl G5 (bv v18) rfl rfl 23 _ xG5.out (by rw [bv_len, h18.out]; kernel_rfl) (by rw [List.size_toArray, bv_len, bv_len, h18.out, z32_len]) (bv_one _) ?_
  intro W10 yG5 kG5
  have zG4 := row_but xG4 kG5 (by omega)
  clear xG4
  have xG4 := zG4
  clear zG4
  refine hK.out _ _ (But.below hHeld kG5 lG5 hHeld.size) (fun hHeld => ?_)
  clear hK K kG5 xG5
  have xG5 := yG5
  clear yG5
  try simp only [pu]
  refine wpAnyH_done (by kernel_rfl) ?_ _
  obtain ⟨V2, rV2⟩ : ∃ X, X = W10 := ⟨_, rfl⟩
  subst rV2
  have gb0_V2 := row_next2 gb0_V1 hHeld
  have sb0_V2 := row_size gb0_V2
  have gb1_V2 := row_next2 gb1_V1 hHeld
  have sb1_V2 := row_size gb1_V2
  have gn3_V2 := row_next2 gn3_V1 hHeld
  have sn3_V2 := row_size gn3_V2
  have hb_V2 := below_next hb_V1 hb_V1.size hHeld
  have gn4_V2 := xG4
  have sn4_V2 := row_size gn4_V2
  clear xG4
  have gn5_V2 := xG5
  have sn5_V2 := row_size gn5_V2
  clear xG5
  have wG4 : w.heap.size + 2 ≤ G4 := by omega
  have wG5 : w.heap.size + 2 ≤ G5 := by omega
  have nG3G4 : G3 ≠ G4 := by omega
  have nG3G5 : G3 ≠ G5 := by omega
  clear hHeld hb_V1 sb0_V1 sb1_V1 sn3_V1
  clear gb0_V1 gb1_V1 gn3_V1 lG4 lG5
  obtain ⟨m, b, hym, hm, hb⟩ := last_apart v18 h18.out
  obtain ⟨c, hc, hx0, hcx⟩ := first_byte v13 h13.out
  have e1 := low8 c hc
  obtain ⟨d, hd⟩ : ∃ d, d = c % 2 := ⟨_, rfl⟩
  have hd2 : d < 2 := by omega
  rw [← hd] at e1 hcx
  clear hd
  have hE := vlt (enc_written m b d v13 v18 hym hm hb e18.out.2 e13.out.2 hcx)
  have hb7 := (written_ln m b d hm hb (by rw [← hym]; exact e18.out.2) hd2).1
  have e2 := or_top b d hb7 hd2
  obtain ⟨n, hn⟩ : ∃ n, n = b + 128 * d := ⟨_, rfl⟩
  have hlt : n < 256 := by omega
  rw [← hn] at hE e2
  obtain ⟨z, hz⟩ : ∃ z, z = m ++ [UInt8.ofNat n] := ⟨_, rfl⟩
  have hzl := Lib.hid (show z.length = 32 by rw [hz]; simp [hm])
  rw [← hz] at hE
  have HF := vlt (show z = encE P by
    have h := rep_x Qp.out.rep
    rw [hE.out, e13.out.1, e18.out.1, h.1, h.2])
  have c31 : V2.cell? ⟨G5, 31, none⟩ = some (.int .u8 (b : Int)) := by
    have h := byte_cell gn5_V2.out (show v18[31]? = some (UInt8.ofNat b) by rw [hym]; exact at_last _ _ hm)
    rwa [UInt8.toNat_ofNat', show (2 : Nat) ^ 8 = 256 by decide, Nat.mod_eq_of_lt hb] at h
  have c0 : V2.cell? ⟨G4, 0, none⟩ = some (.int .u8 (c : Int)) := by
    have h := byte_cell gn4_V2.out hx0
    rwa [UInt8.toNat_ofNat', show (2 : Nat) ^ 8 = 256 by decide, Nat.mod_eq_of_lt hc] at h
  have f31 : V2.frozen? ⟨G5, 31, none⟩ = false := frozen_of_row _ _ _ _ _ gn5_V2.out
  have hset : Hid ((V2.setCell ⟨G5, 31, none⟩ (.int .u8 (n : Int))).heap[G5]? = some (.cells (bv z).toArray 23 (0, 0))) := by
    have h := (world_set_cell gn5_V2.out 31 (.int .u8 (n : Int))).out
    rw [show (Value.int .u8 (n : Int)) = Value.int .u8 ((UInt8.ofNat n).toNat : Int) by rw [UInt8.toNat_ofNat', show (2 : Nat) ^ 8 = 256 by decide, Nat.mod_eq_of_lt hlt], bv_set, hym, set_last _ _ _ hm, ← hz] at h
    rwa [UInt8.toNat_ofNat', show (2 : Nat) ^ 8 = 256 by decide, Nat.mod_eq_of_lt hlt] at h
  clear hz hx0 hcx hym hm hlt hn hE HW
  go_upto_region 4 with fail
  have hbt : But G5 V2 (V2.setCell ⟨G5, 31, none⟩ (.int .u8 (n : Int))) := (But.refl _ _).set _
  have gr1 := row_but gb1_V2 hbt (by omega)
  have hb1 := But.below hb_V2 hbt (by omega) hb_V2.size
  generalize V2.setCell ⟨G5, 31, none⟩ (.int .u8 (n : Int)) = V3 at *
  clear c31 c0 f31 hbt
  go_wp2_with (first
    | (with_reducible refine wpList_load_row rfl 23 (.tmp 5) rfl G5 rfl 23 (bv z).toArray (0, 0) _ hset.out Tryd.underlying23 rfl (by rw [bv_size z hzl.out]; kernel_rfl) ?_)
    | (with_reducible refine wpList_store_row rfl 23 (.tmp 2) (.tmp 27) rfl (w.heap.size + 1) (bv z).toArray rfl rfl 23 _ gr1.out (by rw [bv_size z hzl.out]; kernel_rfl) (by rw [bv_size z hzl.out]; kernel_rfl) (all_oneCell_toArray (bv_one _)) ?_))
  refine bodyPost_ret (v := .agg (bv z).toArray) (results_cell_row Tryd.results35 _ _ (w.heap.size + 1) 23 _ (0, 0) _ rfl (setRow_heap _ _ _ _ _ _ gr1.out) Tryd.underlying23 rfl (by rw [bv_size z hzl.out]; kernel_rfl)) rfl ⟨z, rfl, HF, hzl, below_setRow hb1 (by omega) _⟩
end Go.Proofs.YtehkalbiomagjaaDoor
namespace Go.Proofs.YtehkalbiomagjaaDoor
open Go.RowKit

theorem mul_step0 {P : PtE} (h : OnP P) (N i : Nat) (hb : N / 2 ^ i = N / 2 ^ (i + 1) + N / 2 ^ (i + 1) + 0) : addE (mulE (N / 2 ^ (i + 1)) P) (mulE (N / 2 ^ (i + 1)) P) = mulE (N / 2 ^ i) P := by
  rw [hb]; exact (mulE_add h _ _).symm
theorem mul_step1 {P : PtE} (h : OnP P) (N i : Nat) (hb : N / 2 ^ i = N / 2 ^ (i + 1) + N / 2 ^ (i + 1) + 1) : addE (addE (mulE (N / 2 ^ (i + 1)) P) (mulE (N / 2 ^ (i + 1)) P)) P = mulE (N / 2 ^ i) P := by
  rw [hb, ← mulE_add h]; rfl
set_option maxRecDepth 100000 in
set_option maxHeartbeats 4000000 in
theorem rptmul_any (w : World) (n : List UInt8) (p : List Int) {P : PtE} (hn : n.length = 32) (hlp : p.length = 64) (hp : PoX p P) :
    Calls Tryd.prog 42 #[.agg (bv n).toArray, .agg (i64v p).toArray] w fun e w' => ∃ p, e = .returned (.agg (i64v p).toArray) ∧ Vlt (PoX p (mulE (ln n) P)) ∧ Hid (p.length = 64) ∧ Below w.heap.size w w' := by
  have hzf := zero_fe
  have hzp := zero_point
  have HP := vlt hp
  have HO := vlt (show OnP P by obtain ⟨_, _, _, _, h⟩ := hp; exact h.on)
  have HLN := vlt (ln_lt 32 n hn)
  clear hp
  obtain ⟨V0, hW, gb0_V0, gb1_V0, gb2_V0, hb_V0, hsW⟩ := three_new w (bv n).toArray (i64v p).toArray (i64v z64i).toArray 23 57 57
  have HW := Lib.hid hW
  have Hhn := Lib.hid hn
  have Hhlp := Lib.hid hlp
  have sb0_V0 := row_size gb0_V0
  have sb1_V0 := row_size gb1_V0
  have sb2_V0 := row_size gb2_V0
  clear hW hsW hn hlp
  go_enter Tryd.func42, Tryd.ntmps42
  go_upto_region 1 with fail
  rw [HW.out]
  refine plain_start (S := fun W' => Below V0.heap.size V0 W') (by kernel_rfl) (Below.refl _ _) (fun hHeld => ?_)
  refine mix_start (B := V0.heap.size) (al := [⟨1, 5, 55, ((i64v z16)).toArray⟩]) (fuel := 2) rfl hHeld (hHeld.size) ?_
  clear hHeld
  refine mix_call (i := 0) (o := ⟨(some 8), _, _, _, _, _⟩) rfl (by kernel_rfl) (by kernel_rfl) (by kernel_rfl) (by kernel_rfl) (fun x hx => by simp only [List.mem_cons, List.not_mem_nil, or_false] at hx; rcases hx with rfl <;> first | exact makes_new rfl rfl rfl rfl zero_fe) (fun W x _ h => h.alloc h.size _) (fun _ _ _ _ _ h => h) (fun X1 hHeld hBX K hK => ?_)
  go_simp
  refine (rd_any _  ).mono ?_
  rintro e W1 ⟨v8, rfl, e8, h8, hb1⟩
  refine hK.out _ _ (below_next hHeld hHeld.size hb1) hb1 ?_
  clear hK K hHeld hBX hb1
  try simp only [pu]
  refine mix_end (by kernel_rfl) (by kernel_rfl) (by simp) (by simp) (fun x hx => by simp only [List.mem_cons, List.not_mem_nil, or_false] at hx; rcases hx with rfl <;> first | exact makes_new rfl rfl rfl rfl zero_fe) (fun W x _ h => h.alloc h.size _) (fun D hD W2 hHeld hBX hHo => ?_)
  obtain ⟨G5, rfl⟩ := v_one hD
  have xG5 : Hid (W2.heap[G5]? = some (.cells ((i64v z16)).toArray 55 (0, 0))) := hHo.row (⟨1, 5, 55, ((i64v z16)).toArray⟩, G5) (by simp)
  have lG5 : V0.heap.size ≤ G5 := hHo.new (⟨1, 5, 55, ((i64v z16)).toArray⟩, G5) (by simp)
  clear hHo hBX hD
  simp only [markD, putD, List.foldr_cons, List.foldr_nil, pu, List.setIfInBounds_toArray, List.set_cons_zero, List.set_cons_succ]
  refine wpAnyH_ready (rs := [2]) (by kernel_rfl) (by simp) ?_
  refine AllReadyH.cons (i := 2) (o := ⟨none, _, _, _, _, _⟩) rfl (fun K hK => ?_) AllReadyH.nil
  refine step_row (by rfl) 55 (.tmp 5) (.tmp 8) rfl G5 (i64v v8) rfl rfl 55 _ xG5.out (by rw [i64v_len, h8.out]; kernel_rfl) (by rw [List.size_toArray, i64v_len, i64v_len, h8.out, (show z16.length = 16 from rfl)]) (i64v_one _) ?_
  intro W3 yG5 kG5
  refine hK.out _ _ (But.below hHeld kG5 lG5 hHeld.size) (fun hHeld => ?_)
  clear hK K kG5 xG5
  have xG5 := yG5
  clear yG5
  try simp only [pu]
  refine wpAnyH_done (by kernel_rfl) ?_ _
  obtain ⟨V1, rV1⟩ : ∃ X, X = W3 := ⟨_, rfl⟩
  subst rV1
  have gb0_V1 := row_next2 gb0_V0 hHeld
  have sb0_V1 := row_size gb0_V1
  have gb1_V1 := row_next2 gb1_V0 hHeld
  have sb1_V1 := row_size gb1_V1
  have gb2_V1 := row_next2 gb2_V0 hHeld
  have sb2_V1 := row_size gb2_V1
  have hb_V1 := below_next hb_V0 hb_V0.size hHeld
  have gn5_V1 := xG5
  have sn5_V1 := row_size gn5_V1
  clear xG5
  have wG5 : w.heap.size + 3 ≤ G5 := by omega
  clear hHeld hb_V0 sb0_V0 sb1_V0 sb2_V0
  clear gb0_V0 gb1_V0 gb2_V0 lG5
  go_upto_region 2 with fail
  refine plain_start (S := fun W' => Below V1.heap.size V1 W') (by kernel_rfl) (Below.refl _ _) (fun hHeld => ?_)
  refine mix_start (B := V1.heap.size) (al := [⟨1, 6, 57, ((i64v z64i)).toArray⟩]) (fuel := 2) rfl hHeld (hHeld.size) ?_
  clear hHeld
  refine mix_call (i := 0) (o := ⟨(some 9), _, _, _, _, _⟩) rfl (by kernel_rfl) (by kernel_rfl) (by kernel_rfl) (by kernel_rfl) (fun x hx => by simp only [List.mem_cons, List.not_mem_nil, or_false] at hx; rcases hx with rfl <;> first | exact makes_new rfl rfl rfl rfl zero_point) (fun W x _ h => h.alloc h.size _) (fun _ _ _ _ _ h => h) (fun X4 hHeld hBX K hK => ?_)
  go_simp
  refine (rzero_any _  ).mono ?_
  rintro e W4 ⟨v9, rfl, e9, h9, hb4⟩
  refine hK.out _ _ (below_next hHeld hHeld.size hb4) hb4 ?_
  clear hK K hHeld hBX hb4
  try simp only [pu]
  refine mix_end (by kernel_rfl) (by kernel_rfl) (by simp) (by simp) (fun x hx => by simp only [List.mem_cons, List.not_mem_nil, or_false] at hx; rcases hx with rfl <;> first | exact makes_new rfl rfl rfl rfl zero_point) (fun W x _ h => h.alloc h.size _) (fun D hD W5 hHeld hBX hHo => ?_)
  obtain ⟨G6, rfl⟩ := v_one hD
  have xG6 : Hid (W5.heap[G6]? = some (.cells ((i64v z64i)).toArray 57 (0, 0))) := hHo.row (⟨1, 6, 57, ((i64v z64i)).toArray⟩, G6) (by simp)
  have lG6 : V1.heap.size ≤ G6 := hHo.new (⟨1, 6, 57, ((i64v z64i)).toArray⟩, G6) (by simp)
  clear hHo hBX hD
  simp only [markD, putD, List.foldr_cons, List.foldr_nil, pu, List.setIfInBounds_toArray, List.set_cons_zero, List.set_cons_succ]
  refine wpAnyH_ready (rs := [2]) (by kernel_rfl) (by simp) ?_
  refine AllReadyH.cons (i := 2) (o := ⟨none, _, _, _, _, _⟩) rfl (fun K hK => ?_) AllReadyH.nil
  refine step_row (by rfl) 57 (.tmp 6) (.tmp 9) rfl G6 (i64v v9) rfl rfl 57 _ xG6.out (by rw [i64v_len, h9.out]; kernel_rfl) (by rw [List.size_toArray, i64v_len, i64v_len, h9.out, z64i_len]) (i64v_one _) ?_
  intro W6 yG6 kG6
  refine hK.out _ _ (But.below hHeld kG6 lG6 hHeld.size) (fun hHeld => ?_)
  clear hK K kG6 xG6
  have xG6 := yG6
  clear yG6
  try simp only [pu]
  refine wpAnyH_done (by kernel_rfl) ?_ _
  obtain ⟨V2, rV2⟩ : ∃ X, X = W6 := ⟨_, rfl⟩
  subst rV2
  have gb0_V2 := row_next2 gb0_V1 hHeld
  have sb0_V2 := row_size gb0_V2
  have gb1_V2 := row_next2 gb1_V1 hHeld
  have sb1_V2 := row_size gb1_V2
  have gb2_V2 := row_next2 gb2_V1 hHeld
  have sb2_V2 := row_size gb2_V2
  have gn5_V2 := row_next2 gn5_V1 hHeld
  have sn5_V2 := row_size gn5_V2
  have hb_V2 := below_next hb_V1 hb_V1.size hHeld
  have gn6_V2 := xG6
  have sn6_V2 := row_size gn6_V2
  clear xG6
  have wG6 : w.heap.size + 3 ≤ G6 := by omega
  have nG5G6 : G5 ≠ G6 := by omega
  clear hHeld hb_V1 sb0_V1 sb1_V1 sb2_V1 sn5_V1
  clear gb0_V1 gb1_V1 gb2_V1 gn5_V1 lG6
  have HZ := vlt (show PoX v9 (mulE (ln n / 2 ^ 256) P) by rw [Nat.div_eq_of_lt (Nat.lt_of_lt_of_le HLN.out (by decide))]; exact e9.out)
  clear HW e9 HLN
  go_wp2_with fail
  go_loopw [7] (fun s wr => ∃ (k : Nat) (q : List Int), k ≤ 256 ∧ s = .int .i64 ((k : Int) - 1) ∧ Hid (wr.heap[G6]? = some (.cells (i64v q).toArray 57 (0, 0))) ∧ Hid (q.length = 64) ∧ Vlt (PoX q (mulE (ln n / 2 ^ k) P)) ∧ But G6 V2 wr) (fun s _ => ((intOf s) + 1).toNat)
  case atStart => exact ⟨256, v9, by omega, rfl, gn6_V2, h9, HZ, But.refl _ _⟩
  case round =>
    obtain ⟨k, q, hk, rfl, hg, hl, hM, hbt⟩ := hrel
    by_cases hk0 : 0 < k
    · obtain ⟨i, rfl⟩ : ∃ i, k = i + 1 := ⟨k - 1, by omega⟩
      have ei : ((i + 1 : Nat) : Int) - 1 = (i : Int) := by omega
      rw [ei]
      clear ei
      have hb_wr := But.below hb_V2 hbt (by omega) hb_V2.size
      have gb0_wr := row_but gb0_V2 hbt (by omega)
      have gb1_wr := row_but gb1_V2 hbt (by omega)
      have gb2_wr := row_but gb2_V2 hbt (by omega)
      have gn5_wr := row_but gn5_V2 hbt (by omega)
      have gn6_wr := hg
      have sb0_wr := row_size gb0_wr
      have sb1_wr := row_size gb1_wr
      have sb2_wr := row_size gb2_wr
      have sn5_wr := row_size gn5_wr
      have sn6_wr := row_size gn6_wr
      clear hg
      obtain ⟨c, lc, hc⟩ := byte_ex n (i / 8) (by rw [Hhn.out]; omega)
      have HBIT := vlt (bit_of (ln n) (i % 8) c i (ln_byte n (i / 8) c hc lc) rfl)
      have hcell := vlt (fun (w0 : World) (h0 : w0.heap[w.heap.size]? = some (.cells (bv n).toArray 23 (0, 0))) => byte_cell' h0 lc hc)
      clear hc
      have lsh : c / 2 ^ (i % 8) < 256 := Nat.lt_of_le_of_lt (Nat.div_le_self _ _) lc
      have hlow := low8 _ lsh
      rw [show ((c / 2 ^ (i % 8) : Nat) : Int) = (c : Int) / 2 ^ (i % 8) by simp] at hlow
      obtain ⟨bt, hbt1⟩ : ∃ bt, bt = c / 2 ^ (i % 8) % 2 := ⟨_, rfl⟩
      rw [← hbt1] at hlow HBIT
      have hb2 : bt < 2 := by omega
      have HE1 := vlt (show ln n / 2 ^ i = ln n / 2 ^ (i + 1) + ln n / 2 ^ (i + 1) + bt by rw [HBIT.out]; exact half_exp _ _)
      clear hbt1 lsh HBIT
      go_upto_region 6 with fail
      refine plain_start_c (S := fun W' => Below wr.heap.size wr W') 4 (by kernel_rfl) (Below.refl _ _) (fun hHeld => ?_)
      refine c_read (i := 0) (oi := ⟨(some 14), _, _, _, _, _⟩) (v := _) rfl (by decide) (by kernel_rfl) (by kernel_rfl) (by kernel_rfl) (by kernel_rfl) (by kernel_rfl) (fun _ _ _ h => h) (yieldsIf_load_mid (by rfl) _ _ rfl G6 0 rfl (i64v q) _ (fun W' hW' => range_row ((hW'.block _ sn6_wr).trans gn6_wr.out)) (Tryd.underlying57) rfl (by rw [i64v_len, hl.out]; kernel_rfl)) hHeld ?_
      try simp only [pu]
      refine c_read (i := 1) (oi := ⟨(some 15), _, _, _, _, _⟩) (v := _) rfl (by decide) (by kernel_rfl) (by kernel_rfl) (by kernel_rfl) (by kernel_rfl) (by kernel_rfl) (fun _ _ _ h => h) (yieldsIf_load_mid (by rfl) _ _ rfl G6 0 rfl (i64v q) _ (fun W' hW' => range_row ((hW'.block _ sn6_wr).trans gn6_wr.out)) (Tryd.underlying57) rfl (by rw [i64v_len, hl.out]; kernel_rfl)) hHeld ?_
      try simp only [pu]
      refine c_read (i := 2) (oi := ⟨(some 16), _, _, _, _, _⟩) (v := _) rfl (by decide) (by kernel_rfl) (by kernel_rfl) (by kernel_rfl) (by kernel_rfl) (by kernel_rfl) (fun _ _ _ h => h) (yieldsIf_load_mid (by rfl) _ _ rfl G5 0 rfl (i64v v8) _ (fun W' hW' => range_row ((hW'.block _ sn5_wr).trans gn5_wr.out)) (Tryd.underlying55) rfl (by rw [i64v_len, h8.out]; kernel_rfl)) hHeld ?_
      try simp only [pu]
      refine c_step (i := 3) (o := ⟨(some 17), _, _, _, _, _⟩) (by kernel_rfl) rfl (fun K hK => ?_)
      go_simp
      refine (rptadd_any _ q q v8 (hl.out) (hM.out) (hl.out) (hM.out) (e8.out)).mono ?_
      rintro e W7 ⟨v17, rfl, e17, h17, hb7⟩
      refine hK.out _ _ (below_next hHeld hHeld.size hb7) (fun hHeld => ?_)
      clear hK K hb7
      try simp only [pu]
      refine c_call (S' := fun _ => True) (o := ⟨none, _, _, _, _, _⟩) (by kernel_rfl) (by kernel_rfl) rfl (fun K hK => ?_)
      have cb0_0 := row_next2 gb0_wr hHeld
      have cb1_0 := row_next2 gb1_wr hHeld
      have cb2_0 := row_next2 gb2_wr hHeld
      have cn5_0 := row_next2 gn5_wr hHeld
      have cn6_0 := row_next2 gn6_wr hHeld
      have cb_0 := below_next hb_wr hb_wr.size hHeld
      have ct_0 := But.of_below (g := G6) hHeld (Nat.le_refl _)
      clear hHeld
      refine step_row (by rfl) 57 (.tmp 6) (.tmp 17) rfl G6 (i64v v17) rfl rfl 57 _ cn6_0.out (by rw [i64v_len, h17.out]; kernel_rfl) (by rw [List.size_toArray, i64v_len, hl.out, i64v_len, h17.out]) (i64v_one _) ?_
      intro W8 cn6_1 kR
      refine hK.out _ _ trivial (fun hHeld => ?_)
      have cb0_1 := row_but cb0_0 kR (by omega)
      have cb1_1 := row_but cb1_0 kR (by omega)
      have cb2_1 := row_but cb2_0 kR (by omega)
      have cn5_1 := row_but cn5_0 kR (by omega)
      have cb_1 := But.below cb_0 kR (by omega) cb_0.size
      have bt_a := ct_0.trans kR
      clear ct_0
      clear hK K kR cb_0 cb0_0 cb1_0 cb2_0 cn5_0 cn6_0 
      try simp only [pu]
      refine wpAnyH_done (by kernel_rfl) ?_ _
      obtain ⟨V3, rV3⟩ : ∃ X, X = W8 := ⟨_, rfl⟩
      subst rV3
      have gb0_V3 := cb0_1
      have sb0_V3 := row_size gb0_V3
      have gb1_V3 := cb1_1
      have sb1_V3 := row_size gb1_V3
      have gb2_V3 := cb2_1
      have sb2_V3 := row_size gb2_V3
      have gn5_V3 := cn5_1
      have sn5_V3 := row_size gn5_V3
      have gn6_V3 := cn6_1
      have sn6_V3 := row_size gn6_V3
      have hb_V3 := cb_1
      clear hHeld cb_1 hb_wr  cb0_1 cb1_1 cb2_1 cn5_1 cn6_1 sb0_wr sb1_wr sb2_wr sn5_wr sn6_wr gb0_wr gb1_wr gb2_wr gn5_wr gn6_wr
      have cb := hcell.out V3 gb0_V3.out
      have hq8 : (i : Int).tdiv 8 = ((i / 8 : Nat) : Int) := (Int.ofNat_tdiv i 8).symm
      have hr8 : (i : Int).tmod 8 = ((i % 8 : Nat) : Int) := (Int.ofNat_tmod i 8).symm
      clear hcell
      obtain rfl | rfl : bt = 0 ∨ bt = 1 := by omega
      · have HN := vlt (show PoX v17 (mulE (ln n / 2 ^ i) P) by rw [← mul_step0 HO.out _ _ HE1.out]; exact e17.out)
        have hBt := hbt.trans bt_a
        go_wp2_with fail
        go_roundw
        case rel => exact ⟨i, v17, by omega, by go_num, gn6_V3, h17, HN, hBt⟩
        case measure => simp [intOf]
      · go_upto_region 8 with fail
        clear cb hlow
        refine plain_start_c (S := fun W' => Below V3.heap.size V3 W') 4 (by kernel_rfl) (Below.refl _ _) (fun hHeld => ?_)
        refine c_read (i := 0) (oi := ⟨(some 28), _, _, _, _, _⟩) (v := _) rfl (by decide) (by kernel_rfl) (by kernel_rfl) (by kernel_rfl) (by kernel_rfl) (by kernel_rfl) (fun _ _ _ h => h) (yieldsIf_load_mid (by rfl) _ _ rfl G6 0 rfl (i64v v17) _ (fun W' hW' => range_row ((hW'.block _ sn6_V3).trans gn6_V3.out)) (Tryd.underlying57) rfl (by rw [i64v_len, h17.out]; kernel_rfl)) hHeld ?_
        try simp only [pu]
        refine c_read (i := 1) (oi := ⟨(some 29), _, _, _, _, _⟩) (v := _) rfl (by decide) (by kernel_rfl) (by kernel_rfl) (by kernel_rfl) (by kernel_rfl) (by kernel_rfl) (fun _ _ _ h => h) (yieldsIf_load_mid (by rfl) _ _ rfl (w.heap.size + 1) 0 rfl (i64v p) _ (fun W' hW' => range_row ((hW'.block _ sb1_V3).trans gb1_V3.out)) (Tryd.underlying57) rfl (by rw [i64v_len, Hhlp.out]; kernel_rfl)) hHeld ?_
        try simp only [pu]
        refine c_read (i := 2) (oi := ⟨(some 30), _, _, _, _, _⟩) (v := _) rfl (by decide) (by kernel_rfl) (by kernel_rfl) (by kernel_rfl) (by kernel_rfl) (by kernel_rfl) (fun _ _ _ h => h) (yieldsIf_load_mid (by rfl) _ _ rfl G5 0 rfl (i64v v8) _ (fun W' hW' => range_row ((hW'.block _ sn5_V3).trans gn5_V3.out)) (Tryd.underlying55) rfl (by rw [i64v_len, h8.out]; kernel_rfl)) hHeld ?_
        try simp only [pu]
        refine c_step (i := 3) (o := ⟨(some 31), _, _, _, _, _⟩) (by kernel_rfl) rfl (fun K hK => ?_)
        go_simp
        refine (rptadd_any _ v17 p v8 (h17.out) (e17.out) (Hhlp.out) (HP.out) (e8.out)).mono ?_
        rintro e W9 ⟨v31, rfl, e31, h31, hb9⟩
        refine hK.out _ _ (below_next hHeld hHeld.size hb9) (fun hHeld => ?_)
        clear hK K hb9
        try simp only [pu]
        refine c_call (S' := fun _ => True) (o := ⟨none, _, _, _, _, _⟩) (by kernel_rfl) (by kernel_rfl) rfl (fun K hK => ?_)
        have cb0_0 := row_next2 gb0_V3 hHeld
        have cb1_0 := row_next2 gb1_V3 hHeld
        have cb2_0 := row_next2 gb2_V3 hHeld
        have cn5_0 := row_next2 gn5_V3 hHeld
        have cn6_0 := row_next2 gn6_V3 hHeld
        have cb_0 := below_next hb_V3 hb_V3.size hHeld
        have ct_0 := But.of_below (g := G6) hHeld (Nat.le_refl _)
        clear hHeld
        refine step_row (by rfl) 57 (.tmp 6) (.tmp 31) rfl G6 (i64v v31) rfl rfl 57 _ cn6_0.out (by rw [i64v_len, h31.out]; kernel_rfl) (by rw [List.size_toArray, i64v_len, h17.out, i64v_len, h31.out]) (i64v_one _) ?_
        intro W10 cn6_1 kR
        refine hK.out _ _ trivial (fun hHeld => ?_)
        have cb0_1 := row_but cb0_0 kR (by omega)
        have cb1_1 := row_but cb1_0 kR (by omega)
        have cb2_1 := row_but cb2_0 kR (by omega)
        have cn5_1 := row_but cn5_0 kR (by omega)
        have cb_1 := But.below cb_0 kR (by omega) cb_0.size
        have bt_b := ct_0.trans kR
        clear ct_0
        clear hK K kR cb_0 cb0_0 cb1_0 cb2_0 cn5_0 cn6_0 
        try simp only [pu]
        refine wpAnyH_done (by kernel_rfl) ?_ _
        obtain ⟨V4, rV4⟩ : ∃ X, X = W10 := ⟨_, rfl⟩
        subst rV4
        have gb0_V4 := cb0_1
        have sb0_V4 := row_size gb0_V4
        have gb1_V4 := cb1_1
        have sb1_V4 := row_size gb1_V4
        have gb2_V4 := cb2_1
        have sb2_V4 := row_size gb2_V4
        have gn5_V4 := cn5_1
        have sn5_V4 := row_size gn5_V4
        have gn6_V4 := cn6_1
        have sn6_V4 := row_size gn6_V4
        have hb_V4 := cb_1
        clear hHeld cb_1 hb_V3  cb0_1 cb1_1 cb2_1 cn5_1 cn6_1 sb0_V3 sb1_V3 sb2_V3 sn5_V3 sn6_V3 gb0_V3 gb1_V3 gb2_V3 gn5_V3 gn6_V3
        have HN := vlt (show PoX v31 (mulE (ln n / 2 ^ i) P) by rw [← mul_step1 HO.out _ _ HE1.out]; exact e31.out)
        have hBt := (hbt.trans bt_a).trans bt_b
        go_wp2_with fail
        go_roundw
        case rel => exact ⟨i, v31, by omega, by go_num, gn6_V4, h31, HN, hBt⟩
        case measure => simp [intOf]
    · obtain rfl : k = 0 := by omega
      have g1 := row_but gb2_V2 hbt (by omega)
      have hbw := But.below hb_V2 hbt (by omega) hb_V2.size
      rw [Nat.pow_zero, Nat.div_one] at hM
      go_wp2_with (first
        | (with_reducible refine wpList_load_row rfl 57 (.tmp 6) rfl G6 rfl 57 (i64v q).toArray (0, 0) _ hg.out Tryd.underlying57 rfl (by rw [List.size_toArray, i64v_len, hl.out]; kernel_rfl) ?_)
        | (with_reducible refine wpList_store_row rfl 57 (.tmp 4) (.tmp 32) rfl (w.heap.size + 2) (i64v q).toArray rfl rfl 57 _ g1.out (by rw [List.size_toArray, i64v_len, hl.out]; kernel_rfl) (by rw [List.size_toArray, List.size_toArray, i64v_len, i64v_len, hl.out, z64i_len]) (all_oneCell_toArray (i64v_one _)) ?_))
      refine bodyPost_ret (v := .agg (i64v q).toArray) (results_cell_row Tryd.results42 _ _ (w.heap.size + 2) 57 _ (0, 0) _ rfl (setRow_heap _ _ _ _ _ _ g1.out) Tryd.underlying57 rfl (by rw [List.size_toArray, i64v_len, hl.out]; kernel_rfl)) rfl ⟨q, rfl, hM, hl, below_setRow hbw (by omega) _⟩
end Go.Proofs.YtehkalbiomagjaaDoor
