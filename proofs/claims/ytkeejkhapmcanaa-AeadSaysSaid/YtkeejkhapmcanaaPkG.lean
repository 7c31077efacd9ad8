/-
  Words and contracts that other texts share, several in one text. No statement of the seat is proved here. Conditions: as each contract says.
  Contract of the document's own TagKey: the first 32 bytes of the block of count 0. Conditions: a key of 32 bytes, a nonce of 12.
  Contract of the document's own tagged: what the tag is of. Conditions: fewer than 2^40 bytes each.
  Contract of the document's own Seal. Conditions: a key of 32 bytes, a nonce of 12; up to 300 bytes, up to 2^20 beside.
  Contract of the document's own Open. Conditions: a key of 32 bytes, a nonce of 12; up to 300 bytes, up to 2^20 beside.
-/
import Derived.Test.YtkeejkhapmcanaaPkF
import Derived.Test.YtkeejkhapmcanaaPkD
import Derived.Test.YtkeejkhapmcanaaPkA
import Derived.Test.YtkeejkhapmcanaaPkE
namespace Go.Proofs.Ytkeejkhapmcanaa
open Go.RowKit

theorem zero_wk6 (w : World) : (zeroValue 24).run Try.prog w = .ok (.agg (bv z32).toArray) w := by kernel_rfl
theorem built_wk6 : Try.prog.built 24 [] = some (bv z32).toArray := by kernel_rfl
theorem refBlock_ex0 (w : World) (key nonce : List UInt8) (hk : key.length = 32) (hn : nonce.length = 12) :
    Calls Try.prog 17 #[.agg (bv key).toArray, .int .u32 0, .agg (bv nonce).toArray] w fun e w' => ∃ l, e = .returned (.agg (bv l).toArray) ∧ Vlt (l = blockOf key 0 nonce) ∧ Hid (l.length = 64) ∧ Below w.heap.size w w' := by
  have h := refBlock_ex w key nonce 0 hk hn (by decide)
  exact h

set_option maxRecDepth 100000 in
set_option maxHeartbeats 1000000 in
theorem rkey_any (w : World) (key nonce : List UInt8) (hk : key.length = 32) (hn : nonce.length = 12) :
    Calls Try.prog 15 #[.agg (bv key).toArray, .agg (bv nonce).toArray] w fun e w' => ∃ l, e = .returned (.agg (bv l).toArray) ∧ Vlt (l = akeyOf key nonce) ∧ Hid (l.length = 32) ∧ Below w.heap.size w w' := by
  have hz := zero_b64
  have hzw := zero_wk6
  have HKS := Lib.hid (show (bv key).toArray.size = 32 by simp [bv_len, hk])
  have HNS := Lib.hid (show (bv nonce).toArray.size = 12 by simp [bv_len, hn])
  obtain ⟨W, hW, hgK, hgN, hgZ, hbW, hsW⟩ := three_new w (bv key).toArray (bv nonce).toArray (bv z32).toArray 24 25 24
  have HW := Lib.hid hW
  have hsW2 : w.heap.size + 2 < W.heap.size := by have := hsW.out; omega
  have hblk := refBlock_ex0 W key nonce hk hn
  clear hW hk hn
  go_enter Try.func15, Try.ntmps15
  go_upto_region 1 with fail
  rw [HW.out]
  go_wp2_with (first
    | (with_reducible refine wpList_load_row rfl 24 (.tmp 2) rfl w.heap.size rfl 24 (bv key).toArray (0, 0) _ hgK.out Try.underlying24 rfl (by rw [HKS.out]; kernel_rfl) ?_)
    | (with_reducible refine wpList_load_row rfl 25 (.tmp 3) rfl (w.heap.size + 1) rfl 25 (bv nonce).toArray (0, 0) _ hgN.out Try.underlying25 rfl (by rw [HNS.out]; kernel_rfl) ?_))
  refine hblk.mono ?_
  rintro e w1 ⟨bl, rfl, hbl, hbll, hb1⟩
  clear hblk
  have HBS := Lib.hid (show (bv bl).toArray.size = 64 by simp [bv_len, hbll.out])
  have HZ64 := Lib.hid (show (bv z64).toArray.size = 64 from rfl)
  have HZ32 := Lib.hid (show (bv z32).toArray.size = 32 from rfl)
  have hgZ1 : Hid (w1.heap[w.heap.size + 1 + 1]? = some (.cells (bv z32).toArray 24 (0, 0))) := (hb1.block _ hsW2).trans hgZ.out
  have hbw1 := below_next hbW hbW.size hb1
  have hs1 : w.heap.size + 1 + 1 < w1.heap.size := Nat.lt_of_lt_of_le hsW2 hb1.size
  clear hgK hgN hgZ HW
  go_upto_region 2 with ((with_reducible refine wpList_store_row rfl 40 (.tmp 5) (.tmp 9) rfl w1.heap.size (bv bl).toArray rfl rfl 40 _ (heap_alloc_new _ _) (by rw [HBS.out]; kernel_rfl) (by rw [HBS.out]; exact HZ64.out) (all_oneCell_toArray (bv_one _)) ?_); rw [World.setRow_alloc_new])
  have hg5' : Hid ((w1.alloc (.cells (bv bl).toArray 40)).heap[w1.heap.size]? = some (.cells (bv bl).toArray 40 (0, 0))) := heap_alloc_new _ _
  have hb2' : Below w1.heap.size w1 (w1.alloc (.cells (bv bl).toArray 40)) := (Below.refl _ _).alloc (Nat.le_refl _) _
  have hs2' : Hid ((w1.alloc (.cells (bv bl).toArray 40)).heap.size = w1.heap.size + 1) := show _ = _ by simp
  generalize w1.alloc (.cells (bv bl).toArray 40) = v1 at *
  go_upto_region 3 with (first
    | (with_reducible refine wpList_build_to rfl 24 _ rfl [] (by rfl) _ built_wk6 ?_)
    | ((with_reducible refine wpList_store_row rfl 24 (.tmp 6) (.tmp 10) rfl v1.heap.size (bv z32).toArray rfl rfl 24 _ (heap_alloc_new _ _) (by rw [HZ32.out]; kernel_rfl) (by rw [HZ32.out]) (all_oneCell_toArray (bv_one _)) ?_); rw [World.setRow_alloc_new]))
  rw [hs2'.out]
  have hg6 : Hid ((v1.alloc (.cells (bv z32).toArray 24)).heap[w1.heap.size + 1]? = some (.cells (bv z32).toArray 24 (0, 0))) := by
    have h := heap_alloc_new v1 (.cells (bv z32).toArray 24)
    rw [hs2'.out] at h
    exact h
  have hg5 : Hid ((v1.alloc (.cells (bv z32).toArray 24)).heap[w1.heap.size]? = some (.cells (bv bl).toArray 40 (0, 0))) := (Below.heap_alloc _ _ _ (by rw [hs2'.out]; omega)).trans hg5'.out
  have hb2 : Below w1.heap.size w1 (v1.alloc (.cells (bv z32).toArray 24)) := hb2'.alloc hb2'.size _
  generalize v1.alloc (.cells (bv z32).toArray 24) = W2 at *
  have hl6 : w1.heap.size + 1 < W2.heap.size := (Array.getElem?_eq_some_iff.1 hg6.out).1
  have hgZ2 : Hid (W2.heap[w.heap.size + 1 + 1]? = some (.cells (bv z32).toArray 24 (0, 0))) := (hb2.block _ hs1).trans hgZ1.out
  have hbw2 := below_next hbw1 hbw1.size hb2
  have HK6 := Lib.hid (show (bv (bl.take 32)).toArray.size = 32 by simp [bv_len, hbll.out])
  have HL6 := Lib.hid (show (bl.take 32).length = 32 by simp [hbll.out])
  have HKEY := vlt (show bl.take 32 = akeyOf key nonce by rw [akeyOf, ← hbl.out])
  have hc1 := cut_all Try.underlying24 Try.sizeByte (w1.heap.size + 1) 0 (by decide)
  have hc2 := cut_lh Try.underlying40 Try.sizeByte w1.heap.size 0 0 32 0 32 rfl rfl (by decide) (by decide) (by decide)
  have hsrc := byt_mid hg5.out 0 32
  rw [List.drop_zero] at hsrc
  clear hgZ1 hbw1 hb2 hb2' hg5' hs2'
  go_region_law ((refine step_copy_but rfl (.tmp 11) (.tmp 12) 26 rfl 5 Try.underlying26 Try.sizeByte (w1.heap.size + 1) 0 32 32 32 64 (some ⟨w1.heap.size, 0, none⟩) (by rfl) (by rfl) (bv z32) 24 hg6.out (bl.take 32) W2.heap.size hsrc HL6.out (by decide) (by decide) W2 (But.refl _ W2).drew ?_; intro w3 hg3 hb3))
  have g3 : Hid (w3.heap[w1.heap.size + 1]? = some (.cells (bv (bl.take 32)).toArray 24 (0, 0))) := by
    have h1 := hg3.out
    rw [List.take_of_length_le (show (bl.take 32).length ≤ 32 by rw [HL6.out]; exact Nat.le_refl _), splice_all _ _ (by rw [HL6.out]; rfl)] at h1
    exact h1
  have hgZ3 : Hid (w3.heap[w.heap.size + 1 + 1]? = some (.cells (bv z32).toArray 24 (0, 0))) := (hb3.block _ (by omega) (by intro e; injection e; omega)).trans hgZ2.out
  have hbw3 : Below w.heap.size w w3 := But.below hbw2 hb3 (by omega) hbw2.size
  generalize bl.take 32 = out at *
  clear hg3 hb3 hgZ2 hbw2 hsrc hc1 hc2
  go_wp2_with (first
    | (with_reducible refine wpList_load_row rfl 24 (.tmp 6) rfl (w1.heap.size + 1) rfl 24 (bv out).toArray (0, 0) _ g3.out Try.underlying24 rfl (by rw [HK6.out]; kernel_rfl) ?_)
    | (with_reducible refine wpList_store_row rfl 24 (.tmp 4) (.tmp 14) rfl (w.heap.size + 1 + 1) (bv out).toArray rfl rfl 24 _ hgZ3.out (by rw [HK6.out]; kernel_rfl) (by rw [HK6.out]; exact HZ32.out) (all_oneCell_toArray (bv_one _)) ?_))
  refine bodyPost_ret (v := .agg (bv out).toArray) (results_cell_row Try.results15 _ _ (w.heap.size + 1 + 1) 24 _ (0, 0) _ rfl (setRow_heap _ _ _ _ _ _ hgZ3.out) Try.underlying24 rfl (by rw [HK6.out]; kernel_rfl)) rfl ⟨out, rfl, HKEY, HL6, below_setRow hbw3 (by omega) _⟩
end Go.Proofs.Ytkeejkhapmcanaa
namespace Go.Proofs.Ytkeejkhapmcanaa
open Go.RowKit

theorem fill_more (j : Nat) : List.replicate j (0 : UInt8) ++ [0] = List.replicate (j + 1) 0 := by
  rw [List.replicate_succ']
theorem rlittle8 (A : Option Addr) (l : List UInt8) (n c v : Nat) (w : World) (ha : Byt w w.heap.size A l) (hl : l.length = n) (hn : n ≤ 70368744177664) (hv : v < 18446744073709551616) :
    Calls Try.prog 28 #[.slice A n c, .int .u64 (v : Int), .int .i64 8] w fun e w' => ∃ A' c', e = .returned (.slice A' (n + 8) c') ∧ Res w' w.heap.size 5 A' (n + 8) c' (l ++ le v 8) ∧ Below w.heap.size w w' := by
  have h := refLittle_any A l n c v 8 w ha hl hn hv
  rw [wd_8] at h
  exact h

set_option maxRecDepth 100000 in
set_option maxHeartbeats 1000000 in
theorem rtagged_any (w : World) (D : Option Addr) (beside : List UInt8) (m d : Nat) (hb : Byt w w.heap.size D beside) (hm : beside.length = m) (hmn : m ≤ 1099511627776)
    (A : Option Addr) (hidden : List UInt8) (n c : Nat) (ha : Byt w w.heap.size A hidden) (hl : hidden.length = n) (hn : n ≤ 1099511627776) :
    Calls Try.prog 24 #[.slice D m d, .slice A n c] w fun e w' => ∃ A' k c' L, e = .returned (.slice A' k c') ∧ Vlt (L = macText beside hidden) ∧ Hid (L.length = k) ∧ k ≤ m + n + 46 ∧ Res w' w.heap.size 5 A' k c' L ∧ Below w.heap.size w w' := by
  have HM := Lib.hid hm
  have HL := Lib.hid hl
  have hf1 := fillN_lt m
  have hf2 := fillN_lt n
  obtain ⟨p, hp⟩ : ∃ p, p = fillN m := ⟨_, rfl⟩
  obtain ⟨q, hq⟩ : ∃ q, q = fillN n := ⟨_, rfl⟩
  rw [← hp] at hf1
  rw [← hq] at hf2
  have hmp : (m + p) % 16 = 0 := by rw [hp]; unfold fillN; omega
  have hnq : (n + q) % 16 = 0 := by rw [hq]; unfold fillN; omega
  have HT := vlt (show macText beside hidden = ((beside ++ (List.replicate p 0 ++ hidden)) ++ List.replicate q 0) ++ (le m 8 ++ le n 8) by rw [macText_eq, fillOf, fillOf, hm, hl, ← hp, ← hq]; simp only [List.append_assoc])
  clear hm hl hp hq
  go_enter Try.func24, Try.ntmps24
  go_wp2_with (at_builtin; refine wp_append_src _ rfl (.tmp 6) (.tmp 7) 26 rfl 5 Try.underlying26 Try.infoByte w.heap.size (some ⟨w.heap.size, 0, none⟩) 0 0 [] rfl (Res.none_lit w _ _ (Nat.le_refl _)) D m d rfl w.heap.size beside (hb.alloc (Nat.le_refl _) _) HM.out (by omega) (by simp) ?_)
  intro A1 c1 w1 hr1 hb1'
  have hb1 := hb1' w.heap.size w (Nat.le_refl _) ((Below.refl _ _).alloc (Nat.le_refl _) _)
  clear hb1'
  go_wp2_with fail
  go_loopw [5] (fun s wr => ∃ (j : Nat) (A2 : Option Addr) (c2 : Nat), j ≤ p ∧ s = .slice A2 (m + j) c2 ∧ Res wr w.heap.size 5 A2 (m + j) c2 (beside ++ List.replicate j 0) ∧ Below w.heap.size w wr) (fun s _ => m + 16 - slen s)
  case atStart => exact ⟨0, A1, c1, Nat.zero_le _, rfl, by simpa using hr1, hb1⟩
  case round =>
    clear hr1 hb1
    obtain ⟨j, A2, c2, hj, rfl, hres, hbel⟩ := hrel
    by_cases h0 : j < p
    · have hne : ¬ ((m : Int) + (j : Int)) % 16 = 0 := by omega
      go_wp2_with (at_builtin; refine wp_append_bytes _ rfl (.tmp 13) (.tmp 14) 26 rfl 5 Try.underlying26 Try.infoByte w.heap.size A2 (m + j) c2 _ rfl (hres.alloc _) ⟨wr.heap.size, 0, none⟩ 1 1 rfl [0] rfl (new_byte _ _ _ 0 rfl) (by omega) (by have := hbel.size; simp; omega) ?_)
      intro A3 c3 w3 hres3 hb3
      have hbel3 := hb3 w.heap.size w (Nat.le_refl _) (hbel.alloc (by have := hbel.size; omega) _)
      rw [fill_more] at hres3
      clear hb3 hres hbel
      go_wp2
      exact ⟨⟨j + 1, A3, c3, by omega, rfl, hres3, hbel3⟩, by simp [slen]; omega⟩
    · have HJ := Lib.hid (show j = p by omega)
      have heq : ((m : Int) + (j : Int)) % 16 = 0 := by omega
      have hres2 := Lib.hid (show Res wr w.heap.size 5 A2 (m + j) c2 (beside ++ List.replicate p 0) by rw [← HJ.out]; exact hres)
      have haR := (ha.below hbel).up hbel.size
      clear hres
      go_wp2_with (at_builtin; refine wp_append_src _ rfl (.tmp 16) (.tmp 17) 26 rfl 5 Try.underlying26 Try.infoByte w.heap.size A2 (m + j) c2 _ rfl hres2.out A n c rfl wr.heap.size hidden haR HL.out (by omega) hbel.size ?_)
      intro A4 c4 w4 hr4 hb4'
      have hb4 := hb4' w.heap.size w (Nat.le_refl _) hbel
      clear hb4' hres2 haR hbel h0 heq
      obtain ⟨N, hN⟩ : ∃ N, N = m + j + n := ⟨_, rfl⟩
      have hNm : (N + q) % 16 = 0 := by have := HJ.out; omega
      have hNb : N ≤ m + n + 15 := by omega
      rw [← hN] at hr4 ⊢
      clear hN
      generalize beside ++ (List.replicate p 0 ++ hidden) = L at *
      go_wp2_with fail
      go_loopw [5] (fun s wr => ∃ (j : Nat) (A2 : Option Addr) (c2 : Nat), j ≤ q ∧ s = .slice A2 (N + j) c2 ∧ Res wr w.heap.size 5 A2 (N + j) c2 (L ++ List.replicate j 0) ∧ Below w.heap.size w wr) (fun s _ => N + 16 - slen s)
      case atStart => exact ⟨0, A4, c4, Nat.zero_le _, rfl, by simpa using hr4, hb4⟩
      case round =>
        clear hr4 hb4
        obtain ⟨j, A2, c2, hj, rfl, hres, hbel⟩ := hrel
        by_cases h0 : j < q
        · have hne : ¬ ((N : Int) + (j : Int)) % 16 = 0 := by omega
          go_wp2_with (at_builtin; refine wp_append_bytes _ rfl (.tmp 23) (.tmp 24) 26 rfl 5 Try.underlying26 Try.infoByte w.heap.size A2 (N + j) c2 _ rfl (hres.alloc _) ⟨wr.heap.size, 0, none⟩ 1 1 rfl [0] rfl (new_byte _ _ _ 0 rfl) (by omega) (by have := hbel.size; simp; omega) ?_)
          intro A3 c3 w3 hres3 hb3
          have hbel3 := hb3 w.heap.size w (Nat.le_refl _) (hbel.alloc (by have := hbel.size; omega) _)
          rw [fill_more] at hres3
          clear hb3 hres hbel
          go_wp2
          exact ⟨⟨j + 1, A3, c3, by omega, rfl, hres3, hbel3⟩, by simp [slen]; omega⟩
        · have HJ2 := Lib.hid (show j = q by omega)
          have heq : ((N : Int) + (j : Int)) % 16 = 0 := by omega
          have hres2 := Lib.hid (show Res wr w.heap.size 5 A2 (N + j) c2 (L ++ List.replicate q 0) by rw [← HJ2.out]; exact hres)
          have hM64 : IntKind.u64.wrap (m : Int) = (m : Int) := IntWalk.u64_in _ (by omega)
          have hN64 : IntKind.u64.wrap (n : Int) = (n : Int) := IntWalk.u64_in _ (by omega)
          clear hres
          have hlit := rlittle8 A2 (L ++ List.replicate q 0) (N + j) c2 m wr hres2.out.byt hres2.out.len (by omega) (by omega)
          generalize L ++ List.replicate q 0 = L2 at *
          go_wp2_with fail
          refine hlit.mono ?_
          rintro e w5 ⟨A5, c5, rfl, hr5, hb5⟩
          have hlit2 := rlittle8 A5 (L2 ++ le m 8) (N + j + 8) c5 n w5 hr5.byt hr5.len (by omega) (by omega)
          clear hlit
          go_wp2_with fail
          refine hlit2.mono ?_
          rintro e w6 ⟨A6, c6, rfl, hr6, hb6⟩
          have hbw6 := below_next (below_next hbel hbel.size hb5) (by have := hbel.size; have := hb5.size; omega) hb6
          have hfin := Lib.hid (hr6.base_le (B := w.heap.size) (by have := hbel.size; have := hb5.size; omega))
          have hlen := hr6.len
          clear hlit2 hr5 hr6 hb5 hb6
          go_wp2
          go_ret
          exact ⟨A6, _, c6, (L2 ++ le m 8) ++ le n 8, rfl, vlt (by rw [HT.out, List.append_assoc]), hlen, by omega, hfin.out, hbw6⟩
end Go.Proofs.Ytkeejkhapmcanaa
namespace Go.Proofs.Ytkeejkhapmcanaa
open Go.RowKit

/-- append(own, src...) as one step of a region that draws its order; src nil or not. -/
theorem step_append_src {P : Program} (w : World) {ops : Array Oper} {o : Oper} {a : Act} {K : Act → World → Prop} {Q : Exit → Act → World → Prop} {E' : Prop} (hgd : o.guard = none) (s x : Operand) (T : TypeId)
    (ho : o.op = .call { callee := .builtin .append, args := #[s, x], argTypes := #[T, T] }) (E : TypeId) (hT : P.underlying T = some (.slice E))
    (hI : (P.info? E).map (fun i => (i.zero, i.size, i.bytes)) = some (some (.int .u8 0), 1, 1)) (base : Nat) (A : Option Addr) (n c : Nat) (l : List UInt8) (hs : a.eval s = .slice A n c) (hr : Res w base E A n c l)
    (D : Option Addr) (m c2 : Nat) (hx : a.eval x = .slice D m c2) (B : Nat) (news : List UInt8) (hb : Byt w B D news) (hl : news.length = m) (hsz : n + m ≤ 140737488355328) (hbase : base ≤ w.heap.size)
    (h : ∀ A' c' w', Res w' base E A' (n + m) c' (l ++ news) → (∀ B w0, B ≤ base → Below B w0 w → Below B w0 w') → K (a.put o.dst (.slice A' (n + m) c')) w') :
    if Region.wanted o (yielded ops a.tmps) = true then Oper.wp P o a w K Q else E' := by
  cases D with
  | some ad => exact step_append_bytes w hgd s x T ho E hT hI base A n c l hs hr ad m c2 hx news hl (cells_at hb) hsz hbase h
  | none =>
    have hn : news = [] := by
      rcases hb with h | ⟨_, _, h, _⟩
      · exact h
      · cases h
    subst hn
    subst hl
    have hw : Region.wanted o (yielded ops a.tmps) = true := by simp [Region.wanted, hgd]
    rw [if_pos hw]
    obtain ⟨i, hi, _⟩ := info_parts hI
    have hrun := append_nothing (P := P) (ty := o.type) (c := c2) w hT hi hr
    unfold Oper.wp
    simp only [execOp, ho, resolve, invoke, builtin, Sem.run_bind, Sem.run_pure, Result.andThen_ok, List.map_toArray, List.map_cons, List.map_nil, hs, hx, List.length_nil, hrun]
    have h2 : K (a.put o.dst (.slice A n c)) w := h A c w (by simpa using hr) (fun _ _ _ hb => hb)
    exact h2

theorem rxor_one (w : World) (key nonce b : List UInt8) (A : Option Addr) (n c : Nat) (hk : key.length = 32) (hnn : nonce.length = 12) (hb : Byt w w.heap.size A b) (hl : b.length = n) (hcap : n ≤ c) (hn : n ≤ 300) :
    Calls Try.prog 16 #[.agg (bv key).toArray, .int .u32 1, .agg (bv nonce).toArray, .slice A n c] w fun e w' => ∃ A' c' X, e = .returned (.tuple #[.slice A' n c', .bool true]) ∧ Vlt (X = xorOf key 1 nonce b) ∧ Res w' w.heap.size 5 A' n c' X ∧ Below w.heap.size w w' := by
  have h := refCxor_ok w key nonce b 1 A n c hk hnn (by decide) hb hl hcap hn (by unfold nblk; omega)
  exact h.mono fun _ _ ⟨A', c', h1, h2, h3⟩ => ⟨A', c', _, h1, vlt rfl, h2, h3⟩

set_option maxRecDepth 100000 in
set_option maxHeartbeats 1000000 in
theorem rseal_ok (w : World) (key nonce : List UInt8) (hk : key.length = 32) (hnn : nonce.length = 12) (A : Option Addr) (plain : List UInt8) (n c : Nat) (ha : Byt w w.heap.size A plain) (hl : plain.length = n) (hc : n ≤ c) (hn : n ≤ 300)
    (D : Option Addr) (beside : List UInt8) (m d : Nat) (hb : Byt w w.heap.size D beside) (hm : beside.length = m) (hmn : m ≤ 1048576) :
    Calls Try.prog 13 #[.agg (bv key).toArray, .agg (bv nonce).toArray, .slice A n c, .slice D m d] w fun e w' => ∃ A' c' S, e = .returned (.tuple #[.slice A' (n + 16) c', .bool true]) ∧ Vlt (S = sealOf key nonce plain beside) ∧ Res w' w.heap.size 5 A' (n + 16) c' S ∧ Below w.heap.size w w' := by
  have hz := zero_b16
  have HK := Lib.hid hk
  have HN := Lib.hid hnn
  have HL := Lib.hid hl
  have HM := Lib.hid hm
  have HKS := Lib.hid (show (bv key).toArray.size = 32 by simp [bv_len, hk])
  have HNS := Lib.hid (show (bv nonce).toArray.size = 12 by simp [bv_len, hnn])
  obtain ⟨W, hW, hgK, hgN, hbW, hsW⟩ := pair_new w (bv key).toArray (bv nonce).toArray 24 25
  have HW := Lib.hid hW
  have hsW0 : w.heap.size < W.heap.size := by have := hsW.out; omega
  have hsW1 : w.heap.size + 1 < W.heap.size := by have := hsW.out; omega
  have haW := (ha.below hbW).up hbW.size
  have hbbW := (hb.below hbW).up hbW.size
  clear hW hk hnn hl hm ha hb
  have hst := rxor_one W key nonce plain A n c HK.out HN.out haW HL.out hc hn
  go_enter Try.func13, Try.ntmps13
  go_upto_region 1 with fail
  rw [HW.out]
  go_wp2_with (first
    | (with_reducible refine wpList_load_row rfl 24 (.tmp 4) rfl w.heap.size rfl 24 (bv key).toArray (0, 0) _ hgK.out Try.underlying24 rfl (by rw [HKS.out]; kernel_rfl) ?_)
    | (with_reducible refine wpList_load_row rfl 25 (.tmp 5) rfl (w.heap.size + 1) rfl 25 (bv nonce).toArray (0, 0) _ hgN.out Try.underlying25 rfl (by rw [HNS.out]; kernel_rfl) ?_))
  refine hst.mono ?_
  rintro e w1 ⟨A1, c1, X, rfl, hX, hr1, hb1⟩
  clear hst
  have hgK1 : Hid (w1.heap[w.heap.size]? = some (.cells (bv key).toArray 24 (0, 0))) := (hb1.block _ hsW0).trans hgK.out
  have hgN1 : Hid (w1.heap[w.heap.size + 1]? = some (.cells (bv nonce).toArray 25 (0, 0))) := (hb1.block _ hsW1).trans hgN.out
  have hbw1 := below_next hbW hbW.size hb1
  have hkey := rkey_any w1 key nonce HK.out HN.out
  go_wp2_with (first
    | (with_reducible refine wpList_load_row rfl 24 (.tmp 4) rfl w.heap.size rfl 24 (bv key).toArray (0, 0) _ hgK1.out Try.underlying24 rfl (by rw [HKS.out]; kernel_rfl) ?_)
    | (with_reducible refine wpList_load_row rfl 25 (.tmp 5) rfl (w.heap.size + 1) rfl 25 (bv nonce).toArray (0, 0) _ hgN1.out Try.underlying25 rfl (by rw [HNS.out]; kernel_rfl) ?_))
  refine hkey.mono ?_
  rintro e w2 ⟨ky, rfl, hky, hkyl, hb2⟩
  clear hkey
  have hb12 := below_next hb1 hb1.size hb2
  have hr2 := hr1.keep hb2
  have htd := rtagged_any w2 D beside m d ((hbbW.below hb12).up hb12.size) HM.out (by omega) A1 X n c1 hr2.byt hr2.len (by omega)
  go_wp2_with fail
  refine htd.mono ?_
  rintro e w3 ⟨A3, k3, c3, L, rfl, hL, hLl, hk3, hr3, hb3⟩
  clear htd
  obtain ⟨T, hT⟩ : ∃ T, T = atagOf key nonce X beside := ⟨_, rfl⟩
  have hTe : tagOf ky L = T := by rw [hT, atagOf, hky.out, hL.out]
  have htag := rtag_any w3 ky hkyl.out A3 L k3 c3 hr3.byt hLl.out (by omega)
  rw [hTe] at htag
  have HSEAL := vlt (show X ++ T = sealOf key nonce plain beside by rw [sealOf, ← hX.out, ← hT])
  have HTL := Lib.hid (show T.length = 16 by rw [hT]; exact atagOf_len _ _ _ _)
  clear hTe hT hL hky
  go_wp2_with fail
  refine htag.mono ?_
  rintro e w4 ⟨rfl, hb4⟩
  clear htag
  have HTS := Lib.hid (show (bv T).toArray.size = 16 by simp [bv_len, HTL.out])
  have HZ16 := Lib.hid (show (bv z16).toArray.size = 16 from rfl)
  have hr4 := (hr2.keep hb3).keep hb4
  have hbw4 := below_next (below_next (below_next hbw1 hbw1.size hb2) (Nat.le_trans hbw1.size hb2.size) hb3) (Nat.le_trans (Nat.le_trans hbw1.size hb2.size) hb3.size) hb4
  clear hr1 hr2 hr3 hb1 hb2 hb3 hb4 hb12 hbw1 hgK hgN hgK1 hgN1 hX haW hbbW HW
  go_upto_region 5 with ((with_reducible refine wpList_store_row rfl 45 (.tmp 12) (.tmp 29) rfl w4.heap.size (bv T).toArray rfl rfl 45 _ (heap_alloc_new _ _) (by rw [HTS.out]; kernel_rfl) (by rw [HTS.out]; exact HZ16.out) (all_oneCell_toArray (bv_one _)) ?_); rw [World.setRow_alloc_new])
  have hg5 : Hid ((w4.alloc (.cells (bv T).toArray 45)).heap[w4.heap.size]? = some (.cells (bv T).toArray 45 (0, 0))) := heap_alloc_new _ _
  have hb5 : Below w4.heap.size w4 (w4.alloc (.cells (bv T).toArray 45)) := (Below.refl _ _).alloc (Nat.le_refl _) _
  generalize w4.alloc (.cells (bv T).toArray 45) = w5 at *
  have hr5 := hr4.keep hb5
  have hbw5 := below_next hbw4 hbw4.size hb5
  have hcut := cut_all Try.underlying45 Try.sizeByte w4.heap.size 0 (by decide)
  have hsz5 : w4.heap.size < w5.heap.size := (Array.getElem?_eq_some_iff.1 hg5.out).1
  have hb6 : Below w5.heap.size w5 (w5.drew.alloc (.cells #[] 5)) := ((Below.refl _ _).drew).alloc (Nat.le_refl _) _
  have hr6 := hr5.keep hb6
  have hg6 : Hid ((w5.drew.alloc (.cells #[] 5)).heap[w4.heap.size]? = some (.cells (bv T).toArray 45 (0, 0))) := (hb6.block _ hsz5).trans hg5.out
  refine wp_region_held_drew (S := (fun _ => True)) (by kernel_rfl) (trivial) (fun hHeld => ?_)
  refine wpAnyH_take (i := 1) (oi := ⟨(some 31), _, _, _, _, _⟩) (v := ?vq1_0) rfl (by kernel_rfl) (by kernel_rfl) (by kernel_rfl) (fun _ _ _ h => h) (Or.inl ⟨by rfl, ?yq1_0⟩) hHeld ?_
  case yq1_0 => (intro W0 hSw; go_simp; try with_reducible rfl)
  try simp only [Act.put, List.setIfInBounds_toArray, List.set_cons_zero, List.set_cons_succ]
  refine wpAnyH_take (i := 3) (oi := ⟨(some 33), _, _, _, _, _⟩) (v := ?vq1_1) rfl (by kernel_rfl) (by kernel_rfl) (by kernel_rfl) (fun _ _ _ h => h) (Or.inl ⟨by rfl, ?yq1_1⟩) hHeld ?_
  case yq1_1 => (intro W0 hSw; go_simp; try with_reducible rfl)
  try simp only [Act.put, List.setIfInBounds_toArray, List.set_cons_zero, List.set_cons_succ]
  refine wpAnyH_ready (rs := [0]) (by kernel_rfl) (by simp) ?_
  refine AllReadyH.cons (i := 0) (o := ⟨(some 30), _, _, _, _, _⟩) rfl (fun K hK => ?_) AllReadyH.nil
  go_simp
  refine hK.out _ _ (hHeld) (fun hHeld => ?_)
  clear hK K
  try simp only [Act.put, List.setIfInBounds_toArray, List.set_cons_zero, List.set_cons_succ]
  refine wpAnyH_ready (rs := [2]) (by kernel_rfl) (by simp) ?_
  refine AllReadyH.cons (i := 2) (o := ⟨(some 32), _, _, _, _, _⟩) rfl (fun K hK => ?_) AllReadyH.nil
  refine step_append_src _ rfl (.tmp 30) (.tmp 31) 26 rfl 5 Try.underlying26 Try.infoByte w5.heap.size (some ⟨w5.heap.size, 0, none⟩) 0 0 [] (by rfl) (Res.none_lit w5.drew _ _ (Nat.le_refl _)) A1 n c1 (by rfl) _ X hr6.byt hr6.len (by omega) (by simp) ?_
  intro A7 c7 w7 hr7 hb7
  refine hK.out _ _ (trivial) (fun hHeld => ?_)
  clear hK K
  try simp only [Act.put, List.setIfInBounds_toArray, List.set_cons_zero, List.set_cons_succ]
  have hbel7 := hb7 w5.heap.size w5 (Nat.le_refl _) hb6
  have hg7 : Hid (w7.heap[w4.heap.size]? = some (.cells (bv T).toArray 45 (0, 0))) := (hbel7.block _ hsz5).trans hg5.out
  have hcl7 := cells_at (byt_row hg7.out)
  refine wpAnyH_ready (rs := [4]) (by kernel_rfl) (by simp) ?_
  refine AllReadyH.cons (i := 4) (o := ⟨(some 34), _, _, _, _, _⟩) rfl (fun K hK => ?_) AllReadyH.nil
  refine step_append_bytes w7 rfl (.tmp 32) (.tmp 33) 26 rfl 5 Try.underlying26 Try.infoByte w5.heap.size A7 (0 + n) c7 _ (by rfl) hr7 ⟨w4.heap.size, 0, none⟩ 16 16 (by rfl) T HTL.out hcl7 (by omega) hbel7.size ?_
  intro A8 c8 w8 hr8 hb8
  refine hK.out _ _ (trivial) (fun hHeld => ?_)
  clear hK K
  try simp only [Act.put, List.setIfInBounds_toArray, List.set_cons_zero, List.set_cons_succ]
  refine wpAnyH_take (i := 5) (oi := ⟨(some 8), _, _, _, _, _⟩) (v := ?vq1_2) rfl (by kernel_rfl) (by kernel_rfl) (by kernel_rfl) (fun _ _ _ h => h) (Or.inl ⟨by rfl, ?yq1_2⟩) hHeld ?_
  case yq1_2 => (intro W0 hSw; go_simp; try with_reducible rfl)
  try simp only [Act.put, List.setIfInBounds_toArray, List.set_cons_zero, List.set_cons_succ]
  refine wpAnyH_take (i := 6) (oi := ⟨(some 9), _, _, _, _, _⟩) (v := ?vq1_3) rfl (by kernel_rfl) (by kernel_rfl) (by kernel_rfl) (fun _ _ _ h => h) (Or.inl ⟨by rfl, ?yq1_3⟩) hHeld ?_
  case yq1_3 => (intro W0 hSw; go_simp; try with_reducible rfl)
  try simp only [Act.put, List.setIfInBounds_toArray, List.set_cons_zero, List.set_cons_succ]
  refine wpAnyH_done (by kernel_rfl) ?_ _
  have hbel8 := hb8 w5.heap.size w5 (Nat.le_refl _) hbel7
  have hbw8 := below_next hbw5 hbw5.size hbel8
  have hfin : Hid (Res w8 w.heap.size 5 A8 (n + 16) c8 (X ++ T)) := by
    have h := hr8.base_le (B := w.heap.size) hbw5.size
    rw [Nat.zero_add, List.nil_append] at h
    exact h
  clear hr8 hb8 hr7 hb7 hr6 hr5 hr4 hcl7 hg7 hg6 hg5 hcut hHeld hbel7 hbel8 hb6 hb5
  rw [Nat.zero_add]
  go_wp2
  go_ret2
  exact ⟨A8, c8, X ++ T, rfl, HSEAL, hfin.out, hbw8⟩
end Go.Proofs.Ytkeejkhapmcanaa
namespace Go.Proofs.Ytkeejkhapmcanaa
open Go.RowKit

set_option maxRecDepth 100000 in
set_option maxHeartbeats 1000000 in
theorem ropen_any (w : World) (key nonce : List UInt8) (hk : key.length = 32) (hnn : nonce.length = 12) (A : Option Addr) (s : List UInt8) (n c : Nat) (ha : Byt w w.heap.size A s) (hl : s.length = n) (hc : n ≤ c) (hn : n ≤ 300)
    (D : Option Addr) (beside : List UInt8) (m d : Nat) (hb : Byt w w.heap.size D beside) (hm : beside.length = m) (hmn : m ≤ 1048576) :
    Calls Try.prog 14 #[.agg (bv key).toArray, .agg (bv nonce).toArray, .slice A n c, .slice D m d] w fun e w' => ∃ A' k c' p, ∃ x : Nat, e = .returned (.tuple #[.slice A' k c', .int .i64 (x : Int)]) ∧ Vlt ((p, x) = openOf key nonce s beside) ∧ Res w' w.heap.size 5 A' k c' p ∧ Below w.heap.size w w' := by
  have hz := zero_b16
  have HK := Lib.hid hk
  have HN := Lib.hid hnn
  have HL := Lib.hid hl
  have HM := Lib.hid hm
  have HKS := Lib.hid (show (bv key).toArray.size = 32 by simp [bv_len, hk])
  have HNS := Lib.hid (show (bv nonce).toArray.size = 12 by simp [bv_len, hnn])
  obtain ⟨W, hW, hgK, hgN, hbW, hsW⟩ := pair_new w (bv key).toArray (bv nonce).toArray 24 25
  have HW := Lib.hid hW
  have hsW0 : w.heap.size < W.heap.size := by have := hsW.out; omega
  have hsW1 : w.heap.size + 1 < W.heap.size := by have := hsW.out; omega
  have haW := (ha.below hbW).up hbW.size
  have hbbW := (hb.below hbW).up hbW.size
  have h1 : ¬ (65552 : Int) < (n : Int) := by omega
  clear hW hk hnn hl hm ha hb
  by_cases h16 : n < 16
  · have h2 : (n : Int) < 16 := by omega
    have HO := vlt (show (([], 8) : List UInt8 × Nat) = openOf key nonce s beside from (openOf_short key nonce s beside (by rw [HL.out]; exact h16)).symm)
    go_enter Try.func14, Try.ntmps14
    go_upto_region 1 with fail
    rw [HW.out]
    go_wp2
    go_ret2
    exact ⟨_, _, _, [], 8, rfl, HO, World.ownsRow_nil _ _ _ _, hbW⟩
  obtain ⟨k, hkn⟩ : ∃ k, n = k + 16 := ⟨n - 16, by omega⟩
  have HKN := Lib.hid hkn
  have h2 : (n : Int) - 16 = (k : Int) := by omega
  have h3 : ¬ ((n : Int) < 16) := by omega
  obtain ⟨g, o, hAe, hgl⟩ : ∃ g o, A = some ⟨g, o, none⟩ ∧ g < W.heap.size := by
    rcases haW with h | ⟨g, o, hA, hg, _⟩
    · have := HL.out
      rw [h] at this; simp at this; omega
    · exact ⟨g, o, hA, hg⟩
  subst hAe
  have hk64 : k ≤ 284 := by omega
  have hkc : k ≤ c := by omega
  have hkn2 : k ≤ n := by omega
  have hcutH := run_cut_h (P := Try.prog) Try.underlying26 Try.sizeByte (some ⟨g, o, none⟩) n c k (k : Int) rfl hkc
  have hcutL := run_cut_l (P := Try.prog) Try.underlying26 Try.sizeByte (some ⟨g, o, none⟩) n c k (k : Int) rfl hkn2
  rw [if_neg (by omega), Option.map_some, addr_add, show n - k = 16 by omega] at hcutL
  have htake : Byt W W.heap.size (some ⟨g, o, none⟩) (s.take k) := haW.take k
  have hdrop : Byt W W.heap.size (some ⟨g, o + k, none⟩) (s.drop k) := by
    have h := haW.cut k c (by rw [HL.out]; exact hc)
    rwa [if_neg (by omega), Option.map_some, addr_add] at h
  have hld := Lib.hid (show (s.drop k).length = 16 by rw [List.length_drop, HL.out, HKN.out]; omega)
  have hlt := Lib.hid (show (s.take k).length = k by rw [List.length_take, HL.out, HKN.out]; omega)
  have HNO := vlt (fun h => openOf_no key nonce s beside k (by rw [HL.out, HKN.out]) h)
  have HYES := vlt (fun h => openOf_ok key nonce s beside k (by rw [HL.out, HKN.out]) h)
  generalize s.take k = C at *
  generalize s.drop k = Y at *
  have hkey := rkey_any W key nonce HK.out HN.out
  clear haW hkn
  go_enter Try.func14, Try.ntmps14
  go_upto_region 1 with fail
  rw [HW.out]
  go_wp2_with (first
    | (with_reducible refine wpList_load_row rfl 24 (.tmp 4) rfl w.heap.size rfl 24 (bv key).toArray (0, 0) _ hgK.out Try.underlying24 rfl (by rw [HKS.out]; kernel_rfl) ?_)
    | (with_reducible refine wpList_load_row rfl 25 (.tmp 5) rfl (w.heap.size + 1) rfl 25 (bv nonce).toArray (0, 0) _ hgN.out Try.underlying25 rfl (by rw [HNS.out]; kernel_rfl) ?_))
  refine hkey.mono ?_
  rintro e w2 ⟨ky, rfl, hky, hkyl, hb2⟩
  clear hkey
  have htd := rtagged_any w2 D beside m d ((hbbW.below hb2).up hb2.size) HM.out (by omega) (some ⟨g, o, none⟩) C k c ((htake.below hb2).up hb2.size) hlt.out (by omega)
  go_wp2_with fail
  refine htd.mono ?_
  rintro e w3 ⟨A3, k3, c3, L, rfl, hL, hLl, hk3, hr3, hb3⟩
  clear htd
  obtain ⟨T, hT⟩ : ∃ T, T = atagOf key nonce C beside := ⟨_, rfl⟩
  have hTe : tagOf ky L = T := by rw [hT, atagOf, hky.out, hL.out]
  have htag := rtag_any w3 ky hkyl.out A3 L k3 c3 hr3.byt hLl.out (by omega)
  rw [hTe] at htag
  have HT := vlt hT
  have HTL := Lib.hid (show T.length = 16 by rw [hT]; exact atagOf_len _ _ _ _)
  clear hTe hT hL hky
  go_wp2_with fail
  refine htag.mono ?_
  rintro e w4 ⟨rfl, hb4⟩
  clear htag
  have HTS := Lib.hid (show (bv T).toArray.size = 16 by simp [bv_len, HTL.out])
  have HZ16 := Lib.hid (show (bv z16).toArray.size = 16 from rfl)
  have hbb4 : Below W.heap.size W w4 := below_next (below_next hb2 hb2.size hb3) (Nat.le_trans hb2.size hb3.size) hb4
  clear hr3 hb2 hb3 hb4
  go_upto_region 7 with ((with_reducible refine wpList_store_row rfl 45 (.tmp 11) (.tmp 31) rfl w4.heap.size (bv T).toArray rfl rfl 45 _ (heap_alloc_new _ _) (by rw [HTS.out]; kernel_rfl) (by rw [HTS.out]; exact HZ16.out) (all_oneCell_toArray (bv_one _)) ?_); rw [World.setRow_alloc_new])
  have hg5 : Hid ((w4.alloc (.cells (bv T).toArray 45)).heap[w4.heap.size]? = some (.cells (bv T).toArray 45 (0, 0))) := heap_alloc_new _ _
  have hb5 : Below w4.heap.size w4 (w4.alloc (.cells (bv T).toArray 45)) := (Below.refl _ _).alloc (Nat.le_refl _) _
  generalize w4.alloc (.cells (bv T).toArray 45) = w5 at *
  have hbb5 := below_next hbb4 hbb4.size hb5
  have hbw5 := below_next hbW hbW.size hbb5
  have hcut := cut_all Try.underlying45 Try.sizeByte w4.heap.size 0 (by decide)
  have hbT := byt_row hg5.out
  have hbY := (hdrop.below hbb5).up hbb5.size
  have hbC := (htake.below hbb5).up hbb5.size
  have hcx : ∀ W', Below w5.heap.size w5 W' → (convert 26 9 (.slice (some ⟨w4.heap.size, 0, none⟩) 16 16)).run Try.prog W' = .ok (.string ⟨T.toArray⟩) W' := fun W' h =>
    conv_bytes Try.underlying26 Try.underlying5 Try.underlying9 (hbT.below h) 16 16 HTL.out
  have hcy : ∀ W', Below w5.heap.size w5 W' → (convert 26 9 (.slice (some ⟨g, o + k, none⟩) 16 (c - k))).run Try.prog W' = .ok (.string ⟨Y.toArray⟩) W' := fun W' h =>
    conv_bytes Try.underlying26 Try.underlying5 Try.underlying9 (hbY.below h) 16 (c - k) hld.out
  refine wp_region_held_drew (S := (fun W' => Below w5.heap.size w5 W')) (by kernel_rfl) ((Below.refl _ _).drew) (fun hHeld => ?_)
  refine wpAnyH_take (i := 0) (oi := ⟨(some 32), _, _, _, _, _⟩) (v := ?vq1_0) rfl (by kernel_rfl) (by kernel_rfl) (by kernel_rfl) (fun _ _ _ h => h) (Or.inl ⟨by rfl, ?yq1_0⟩) hHeld ?_
  case yq1_0 => (intro W0 hSw; go_simp; try with_reducible rfl)
  try simp only [Act.put, List.setIfInBounds_toArray, List.set_cons_zero, List.set_cons_succ]
  refine wpAnyH_take (i := 1) (oi := ⟨(some 33), _, _, _, _, _⟩) (v := ?vq1_1) rfl (by kernel_rfl) (by kernel_rfl) (by kernel_rfl) (fun _ _ _ h => h) (Or.inl ⟨by rfl, ?yq1_1⟩) hHeld ?_
  case yq1_1 => (intro W0 hSw; go_simp; try with_reducible rfl)
  try simp only [Act.put, List.setIfInBounds_toArray, List.set_cons_zero, List.set_cons_succ]
  refine wpAnyH_take (i := 2) (oi := ⟨(some 34), _, _, _, _, _⟩) (v := ?vq1_2) rfl (by kernel_rfl) (by kernel_rfl) (by kernel_rfl) (fun _ _ _ h => h) (Or.inl ⟨by rfl, ?yq1_2⟩) hHeld ?_
  case yq1_2 => (intro W0 hSw; go_simp; try with_reducible rfl)
  try simp only [Act.put, List.setIfInBounds_toArray, List.set_cons_zero, List.set_cons_succ]
  refine wpAnyH_take (i := 3) (oi := ⟨(some 35), _, _, _, _, _⟩) (v := ?vq1_3) rfl (by kernel_rfl) (by kernel_rfl) (by kernel_rfl) (fun _ _ _ h => h) (Or.inl ⟨by rfl, ?yq1_3⟩) hHeld ?_
  case yq1_3 => (intro W0 hSw; go_simp; try with_reducible rfl)
  try simp only [Act.put, List.setIfInBounds_toArray, List.set_cons_zero, List.set_cons_succ]
  refine wpAnyH_take (i := 4) (oi := ⟨(some 36), _, _, _, _, _⟩) (v := ?vq1_4) rfl (by kernel_rfl) (by kernel_rfl) (by kernel_rfl) (fun _ _ _ h => h) (Or.inl ⟨by rfl, ?yq1_4⟩) hHeld ?_
  case yq1_4 => (intro W0 hSw; go_simp; try with_reducible rfl)
  try simp only [Act.put, List.setIfInBounds_toArray, List.set_cons_zero, List.set_cons_succ]
  refine wpAnyH_take (i := 5) (oi := ⟨(some 37), _, _, _, _, _⟩) (v := ?vq1_5) rfl (by kernel_rfl) (by kernel_rfl) (by kernel_rfl) (fun _ _ _ h => h) (Or.inl ⟨by rfl, ?yq1_5⟩) hHeld ?_
  case yq1_5 => (intro W0 hSw; go_simp; try with_reducible rfl)
  try simp only [Act.put, List.setIfInBounds_toArray, List.set_cons_zero, List.set_cons_succ]
  refine wpAnyH_take (i := 6) (oi := ⟨(some 38), _, _, _, _, _⟩) (v := ?vq1_6) rfl (by kernel_rfl) (by kernel_rfl) (by kernel_rfl) (fun _ _ _ h => h) (Or.inl ⟨by rfl, ?yq1_6⟩) hHeld ?_
  case yq1_6 => (intro W0 hSw; go_simp; try with_reducible rfl)
  try simp only [Act.put, List.setIfInBounds_toArray, List.set_cons_zero, List.set_cons_succ]
  refine wpAnyH_take (i := 7) (oi := ⟨(some 39), _, _, _, _, _⟩) (v := ?vq1_7) rfl (by kernel_rfl) (by kernel_rfl) (by kernel_rfl) (fun _ _ _ h => h) (Or.inl ⟨by rfl, ?yq1_7⟩) hHeld ?_
  case yq1_7 => (intro W0 hSw; go_simp; try with_reducible rfl)
  try simp only [Act.put, List.setIfInBounds_toArray, List.set_cons_zero, List.set_cons_succ]
  refine wpAnyH_done (by kernel_rfl) ?_ _
  have hbd := hHeld
  generalize w5.drew = w6 at *
  have hbb6 := below_next hbb5 hbb5.size hbd
  have hbw6 := below_next hbw5 hbw5.size hbd
  have hbC6 := (hbC.below hbd).up hbd.size
  clear hHeld hbd hcx hcy hbT hbY hbC hcut hg5 hb5 hcutH hcutL hdrop htake hbb4 hbb5 hbw5 hbbW
  by_cases hTY : T = Y
  · have HE := vlt (show (xorOf key 1 nonce C, 0) = openOf key nonce s beside from (HYES.out (by rw [← HT.out]; exact hTY)).symm)
    have hgK6 : Hid (w6.heap[w.heap.size]? = some (.cells (bv key).toArray 24 (0, 0))) := (hbb6.block _ hsW0).trans hgK.out
    have hgN6 : Hid (w6.heap[w.heap.size + 1]? = some (.cells (bv nonce).toArray 25 (0, 0))) := (hbb6.block _ hsW1).trans hgN.out
    have hst := rxor_one w6 key nonce C (some ⟨g, o, none⟩) k c HK.out HN.out hbC6 hlt.out hkc (by omega)
    rw [show (T == Y) = true by simp [hTY]]
    clear HT HNO HYES hTY
    go_wp2_with (first
      | (with_reducible refine wpList_load_row rfl 24 (.tmp 4) rfl w.heap.size rfl 24 (bv key).toArray (0, 0) _ hgK6.out Try.underlying24 rfl (by rw [HKS.out]; kernel_rfl) ?_)
      | (with_reducible refine wpList_load_row rfl 25 (.tmp 5) rfl (w.heap.size + 1) rfl 25 (bv nonce).toArray (0, 0) _ hgN6.out Try.underlying25 rfl (by rw [HNS.out]; kernel_rfl) ?_))
    refine hst.mono ?_
    rintro e w7 ⟨A7, c7, X, rfl, hX, hr7, hb7⟩
    clear hst
    have HE2 := vlt (show (X, 0) = openOf key nonce s beside by rw [hX.out]; exact HE.out)
    have hr := Lib.hid (hr7.base_le (B := w.heap.size) hbw6.size)
    have hbw7 := below_next hbw6 hbw6.size hb7
    clear hr7 hb7 hX HE
    go_wp2
    go_ret2
    exact ⟨A7, k, c7, X, 0, rfl, HE2, hr.out, hbw7⟩
  · have HE := vlt (show (([], 8) : List UInt8 × Nat) = openOf key nonce s beside from (HNO.out (by rw [← HT.out]; exact hTY)).symm)
    rw [show (T == Y) = false by simp [hTY]]
    clear HT HNO HYES hTY
    go_wp2
    go_ret2
    exact ⟨none, 0, 0, [], 8, rfl, HE, World.ownsRow_nil _ _ _ _, hbw6⟩
end Go.Proofs.Ytkeejkhapmcanaa
