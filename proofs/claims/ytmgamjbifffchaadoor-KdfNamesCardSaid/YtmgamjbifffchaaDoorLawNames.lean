/-
  KdfNames: the law's Go text returns true, whatever the key and the two texts. Conditions: the tables lie as the program lays them.
-/
import Derived.Test.YtmgamjbifffchaaDoorKdfK
import Derived.Test.YtmgamjbifffchaaDoorKdfS
import Derived.Test.YtmgamjbifffchaaDoorKdfW
namespace Go.Proofs.YtmgamjbifffchaaDoor
open Go.RowKit

theorem step_append_str {P : Program} (w : World) {ops : Array Oper} {o : Oper} {a : Act} {K : Act → World → Prop} {Q : Exit → Act → World → Prop} {E' : Prop} (hgd : o.guard = none) (s x : Operand) (T S : TypeId)
    (ho : o.op = .call { callee := .builtin .append, args := #[s, x], argTypes := #[T, S] }) (E : TypeId) (hT : P.underlying T = some (.slice E)) (hS : P.underlying S = some .string)
    (hI : (P.info? E).map (fun i => (i.zero, i.size, i.bytes)) = some (some (.int .u8 0), 1, 1)) (base : Nat) (A : Option Addr) (n c : Nat) (l : List UInt8) (hs : a.eval s = .slice A n c) (hr : Res w base E A n c l)
    (t : ByteArray) (hx : a.eval x = .string t) (hsz : n + t.size ≤ 140737488355328) (hbase : base ≤ w.heap.size)
    (h : ∀ A' c' w', Res w' base E A' (n + t.size) c' (l ++ t.data.toList) → (∀ B w0, B ≤ base → Below B w0 w → Below B w0 w') → K (a.put o.dst (.slice A' (n + t.size) c')) w') :
    if Region.wanted o (yielded ops a.tmps) = true then Oper.wp P o a w K Q else E' := by
  have hw : Region.wanted o (yielded ops a.tmps) = true := by simp [Region.wanted, hgd]
  rw [if_pos hw]
  obtain ⟨i, hi, hz, h1, h2⟩ := info_parts hI
  obtain ⟨v', w', hrun, hown, hgr, _⟩ := Lib.run_append_own_string (P := P) w base T S o.type E i hT hS hi hz h1 h2 _ n (bv l) hr t (by unfold maxLen; omega) hsz hbase
  have hown' : w'.ownsRow base E 1 v' (n + t.size) (bv (l ++ t.data.toList)) := by rw [bv_app]; exact hown
  obtain ⟨A', c', rfl, hres⟩ := Res.of v' hown'
  unfold Oper.wp execOp
  simp only [ho, resolve, invoke, builtin, Sem.run_bind, Sem.run_pure, Result.andThen_ok, List.map_toArray, List.map_cons, List.map_nil, hs, hx, hrun]
  exact h A' c' w' hres fun B w0 hB hb => hb.grown hgr (by omega) fun k hk => by have := World.ownsRow.lt hr k hk; omega
theorem range_row {w : World} {g : Nat} {l : List UInt8} {t : TypeId} (hg : w.heap[g]? = some (.cells (bv l).toArray t (0, 0))) : w.rangeAt g 0 (bv l) := by
  intro j v hj
  rw [Nat.zero_add, cell_of_row _ _ _ _ _ _ hg]
  simpa using hj
theorem told_small (s : ByteArray) (h : s.size ≤ 80) : told s = [0, UInt8.ofNat s.size] ++ s.data.toList := by
  rw [told, show s.size / 256 = 0 by omega]; rfl
theorem small_row (n : Nat) (h : n ≤ 80) : (#[Value.int .u8 0, Value.int .u8 (n : Int)] : Array Value).toList = bv [0, UInt8.ofNat n] := by
  simp [bv, UInt8.toNat_ofNat']; omega
theorem new_small (w : World) (n : Nat) (h : n ≤ 80) (E : TypeId) : ∀ j u, (bv [0, UInt8.ofNat n])[j]? = some u → (w.alloc (.cells #[.int .u8 0, .int .u8 (n : Int)] E)).cell? ((⟨w.heap.size, 0, none⟩ : Addr).add j) = some u := by
  intro j u hj
  rw [addr_add, Nat.zero_add, cell_of_row _ _ _ _ _ _ (heap_alloc_new w _)]
  rw [← small_row n h] at hj
  simpa using hj

set_option maxRecDepth 100000 in
set_option maxHeartbeats 2000000 in
theorem walk_KdfNames (w : World) (hla : Laid w) (key : List UInt8) (hkey : key.length = 32) (a : ByteArray) (_ : a.size ≤ maxLen) (b : ByteArray) (_ : b.size ≤ maxLen) :
    Calls Tryd.prog 4 #[.agg (bv key).toArray, .string a, .string b] w fun e w' => e = .returned (.bool true) ∧ Below w.heap.size w w' := by
  have hzw := zero_word
  have HKL := Lib.hid hkey
  have HKS := Lib.hid (show (bv key).toArray.size = 32 by simp [bv_len, hkey])
  have HZ3 := Lib.hid (show (bv z32).toArray.size = 32 from rfl)
  have hw1 : Below w.heap.size w (w.alloc (.cells (bv key).toArray 23)) := (Below.refl _ _).alloc (Nat.le_refl _) _
  have hawake := awake_any _ (hla.below hla.2.2 hw1)
  clear hkey
  go_enter Tryd.func4, Tryd.ntmps4
  go_wp2_with fail
  refine hawake.mono ?_
  rintro e w2 ⟨rfl, hb2⟩
  clear hawake
  have hb2' : Below w.heap.size w w2 := below_next hw1 (by simp) hb2
  have hk2 : Hid (w2.heap[w.heap.size]? = some (.cells (bv key).toArray 23 (0, 0))) := (hb2.block _ (by simp)).trans (heap_alloc_new _ _)
  have hs2 : w.heap.size < w2.heap.size := (Array.getElem?_eq_some_iff.1 hk2.out).1
  clear hb2 hw1
  by_cases h1 : 80 < a.size
  · have h5 : (80 : Int) < (a.size : Int) := by omega
    go_wp2
    go_ret
    exact ⟨rfl, hb2'⟩
  by_cases h2 : 80 < b.size
  · have h5 : (80 : Int) < (b.size : Int) := by omega
    have h6 : ¬ (80 : Int) < (a.size : Int) := by omega
    go_wp2
    go_ret
    exact ⟨rfl, hb2'⟩
  have ha : a.size ≤ 80 := by omega
  have hb : b.size ≤ 80 := by omega
  have h7 : ¬ (80 : Int) < (a.size : Int) := by omega
  have h8 : ¬ (80 : Int) < (b.size : Int) := by omega
  clear h1 h2
  have hr3 : Res (w2.alloc (.cells #[.int .u8 0, .int .u8 (a.size : Int)] 5)) w2.heap.size 5 (some ⟨w2.heap.size, 0, none⟩) 2 2 [0, UInt8.ofNat a.size] :=
    Res.row (Nat.le_refl _) (heap_alloc_new _ _) (Nat.le_refl _) (by omega) rfl rfl (by rw [List.take_of_length_le (by simp), small_row a.size ha])
  have hbw3 : Below w2.heap.size w2 (w2.alloc (.cells #[.int .u8 0, .int .u8 (a.size : Int)] 5)) := (Below.refl _ _).alloc (Nat.le_refl _) _
  go_wp2_with (at_builtin; refine wp_append_str _ rfl (.tmp 24) (.tmp 25) 24 9 rfl 5 Tryd.underlying24 Tryd.underlying9 Tryd.infoByte w2.heap.size (some ⟨w2.heap.size, 0, none⟩) 2 2 _ rfl hr3 a rfl (by omega) (by simp) ?_)
  intro A4 c4 w4 hr4 hb4
  have hbw4 := hb4 w2.heap.size w2 (Nat.le_refl _) hbw3
  clear hb4 hr3 hbw3
  go_wp2_with (at_builtin; refine wp_append_bytes _ rfl (.tmp 26) (.tmp 30) 24 rfl 5 Tryd.underlying24 Tryd.infoByte w2.heap.size A4 (2 + a.size) c4 _ rfl (hr4.alloc _) ⟨w4.heap.size, 0, none⟩ 2 2 rfl [0, UInt8.ofNat b.size] rfl (new_small w4 b.size hb _) (by omega) (by have := hbw4.size; simp; omega) ?_)
  intro A5 c5 w5 hr5 hb5
  have hbw5 := hb5 w2.heap.size w2 (Nat.le_refl _) (hbw4.alloc hbw4.size _)
  clear hb5 hr4 hbw4
  have hk5 : Hid (w5.heap[w.heap.size]? = some (.cells (bv key).toArray 23 (0, 0))) := (hbw5.block _ hs2).trans hk2.out
  have hs5 := hbw5.size
  go_wp2_with fail
  refine wp_region_held_drew (S := (fun W => Below w2.heap.size w5 W)) (by kernel_rfl) ((Below.refl _ _).drew) (fun hHeld => ?_)
  refine wpAnyH_take (i := 0) (oi := ⟨(some 33), _, _, _, _, _⟩) (v := _) rfl (by kernel_rfl) (by kernel_rfl) (by kernel_rfl) (fun _ _ _ h => h) (yieldsIf_load_mid (by rfl) _ _ rfl w.heap.size 0 rfl (bv key) _ (fun W hW => range_row ((hW.block _ hs2).trans hk5.out)) (Tryd.underlying23) (rfl) (by rw [bv_len, HKL.out]; kernel_rfl)) hHeld ?_
  try simp only [Act.put, List.setIfInBounds_toArray, List.set_cons_zero, List.set_cons_succ]
  refine wpAnyH_take (i := 1) (oi := ⟨(some 34), _, _, _, _, _⟩) (v := ?vq1_0) rfl (by kernel_rfl) (by kernel_rfl) (by kernel_rfl) (fun _ _ _ h => h) (Or.inl ⟨by rfl, ?yq1_0⟩) hHeld ?_
  case yq1_0 => (intro W0 hSw; go_simp; try with_reducible rfl)
  try simp only [Act.put, List.setIfInBounds_toArray, List.set_cons_zero, List.set_cons_succ]
  refine wpAnyH_take (i := 2) (oi := ⟨(some 35), _, _, _, _, _⟩) (v := ?vq1_1) rfl (by kernel_rfl) (by kernel_rfl) (by kernel_rfl) (fun _ _ _ h => h) (Or.inl ⟨by rfl, ?yq1_1⟩) hHeld ?_
  case yq1_1 => (intro W0 hSw; go_simp; try with_reducible rfl)
  try simp only [Act.put, List.setIfInBounds_toArray, List.set_cons_zero, List.set_cons_succ]
  refine wpAnyH_ready (rs := [3]) (by kernel_rfl) (by simp) ?_
  refine AllReadyH.cons (i := 3) (o := ⟨(some 36), _, _, _, _, _⟩) rfl (fun K hK => ?_) AllReadyH.nil
  refine step_append_str _ rfl (.tmp 34) (.tmp 35) 24 9 rfl 5 Tryd.underlying24 Tryd.underlying9 Tryd.infoByte w2.heap.size A5 (2 + a.size + 2) c5 _ (by rfl) hr5.drew b (by rfl) (by omega) hs5 ?_
  intro A6 c6 w6 hr6 hb6
  have hbw6 : Below w2.heap.size w5 w6 := hb6 w2.heap.size w5 (Nat.le_refl _) hHeld
  refine hK.out _ _ (hbw6) (fun hHeld => ?_)
  clear hK K
  try simp only [Act.put, List.setIfInBounds_toArray, List.set_cons_zero, List.set_cons_succ]
  have hb6' : Below w.heap.size w w6 := (hb2'.trans (hbw5.mono hb2'.size)).trans (hbw6.mono hb2'.size)
  have hin : (0 :: UInt8.ofNat a.size :: (a.data.toList ++ [0, UInt8.ofNat b.size])) ++ b.data.toList = tolds [a, b] := by simp [tolds, told_small a ha, told_small b hb]
  rw [hin] at hr6
  have hex := expand_any w6 key A6 _ (2 + a.size + 2 + b.size) c6 32 HKL.out hr6.byt hr6.len hr6.cap (by omega) (by omega) (hla.below hla.2.2 hb6')
  clear hin
  refine wpAnyH_ready (rs := [4]) (by kernel_rfl) (by simp) ?_
  refine AllReadyH.cons (i := 4) (o := ⟨(some 37), _, _, _, _, _⟩) rfl (fun K hK => ?_) AllReadyH.nil
  go_simp
  refine hex.mono ?_
  rintro e w7 ⟨A7, c7, rfl, hr7, hb7⟩
  have hbw7 : Below w2.heap.size w5 w7 := hbw6.trans (hb7.mono (by have := hbw6.size; omega))
  refine hK.out _ _ (hbw7) (fun hHeld => ?_)
  clear hK K
  try simp only [Act.put, List.setIfInBounds_toArray, List.set_cons_zero, List.set_cons_succ]
  refine wpAnyH_take (i := 5) (oi := ⟨(some 32), _, _, _, _, _⟩) (v := ?vq1_2) rfl (by kernel_rfl) (by kernel_rfl) (by kernel_rfl) (fun _ _ _ h => h) (Or.inl ⟨by rfl, ?yq1_2⟩) hHeld ?_
  case yq1_2 => (intro W0 hSw; go_simp; try with_reducible rfl)
  try simp only [Act.put, List.setIfInBounds_toArray, List.set_cons_zero, List.set_cons_succ]
  refine wpAnyH_take (i := 6) (oi := ⟨(some 38), _, _, _, _, _⟩) (v := ?vq1_3) rfl (by kernel_rfl) (by kernel_rfl) (by kernel_rfl) (fun _ _ _ h => h) (Or.inl ⟨by rfl, ?yq1_3⟩) hHeld ?_
  case yq1_3 => (intro W0 hSw; go_simp; try with_reducible rfl)
  try simp only [Act.put, List.setIfInBounds_toArray, List.set_cons_zero, List.set_cons_succ]
  refine wpAnyH_take (i := 7) (oi := ⟨(some 39), _, _, _, _, _⟩) (v := ?vq1_4) rfl (by kernel_rfl) (by kernel_rfl) (by kernel_rfl) (fun _ _ _ h => h) (Or.inl ⟨by rfl, ?yq1_4⟩) hHeld ?_
  case yq1_4 => (intro W0 hSw; go_simp; try with_reducible rfl)
  try simp only [Act.put, List.setIfInBounds_toArray, List.set_cons_zero, List.set_cons_succ]
  refine wpAnyH_take (i := 8) (oi := ⟨(some 8), _, _, _, _, _⟩) (v := ?vq1_5) rfl (by kernel_rfl) (by kernel_rfl) (by kernel_rfl) (fun _ _ _ h => h) (Or.inl ⟨by rfl, ?yq1_5⟩) hHeld ?_
  case yq1_5 => (intro W0 hSw; go_simp; try with_reducible rfl)
  try simp only [Act.put, List.setIfInBounds_toArray, List.set_cons_zero, List.set_cons_succ]
  refine wpAnyH_take (i := 9) (oi := ⟨(some 9), _, _, _, _, _⟩) (v := ?vq1_6) rfl (by kernel_rfl) (by kernel_rfl) (by kernel_rfl) (fun _ _ _ h => h) (Or.inl ⟨by rfl, ?yq1_6⟩) hHeld ?_
  case yq1_6 => (intro W0 hSw; go_simp; try with_reducible rfl)
  try simp only [Act.put, List.setIfInBounds_toArray, List.set_cons_zero, List.set_cons_succ]
  refine wpAnyH_done (by kernel_rfl) ?_ _
  have hk7 : Hid (w7.heap[w.heap.size]? = some (.cells (bv key).toArray 23 (0, 0))) := (hbw7.block _ hs2).trans hk5.out
  have hb7' : Below w.heap.size w w7 := below_next hb6' hb6'.size hb7
  obtain ⟨X, hX⟩ : ∃ X, X = expandOf key (tolds [a, b]) 32 := ⟨_, rfl⟩
  rw [← hX] at hr7
  have hXl : X.length = 32 := by rw [hX]; exact expandOf_len _ _ _
  have HXL := Lib.hid hXl
  have HXS := Lib.hid (show (bv X).toArray.size = 32 by simp [bv_len, hXl])
  have hw8 : Below w7.heap.size w7 (w7.alloc (.cells #[.string a, .string b] 9)) := (Below.refl _ _).alloc (Nat.le_refl _) _
  have htxt : Txt (w7.alloc (.cells #[.string a, .string b] 9)) (w7.alloc (.cells #[.string a, .string b] 9)).heap.size (some ⟨w7.heap.size, 0, none⟩) [a, b] := by
    refine .inr ⟨w7.heap.size, 0, rfl, by simp, fun j s hj => ?_⟩
    rw [Nat.zero_add, cell_of_row _ _ _ _ _ _ (heap_alloc_new w7 _)]
    match j, hj with
    | 0, hj => simp at hj; subst hj; rfl
    | 1, hj => simp at hj; subst hj; rfl
  have hkeyc := key_any _ key (some ⟨w7.heap.size, 0, none⟩) [a, b] 2 2 HKL.out htxt rfl (by omega) (by simp [tolds, told_len]; omega) (hla.below hla.2.2 (below_next hb7' hb7'.size hw8))
  rw [← hX] at hkeyc
  clear hX hXl htxt hHeld hr6 hr5 hex hb6 hbw6 hb6' hbw7 hb7 hbw5 hk5 hk2
  go_wp2_with ((with_reducible refine wpList_load_row rfl 23 (.tmp 3) rfl w.heap.size rfl 23 (bv key).toArray (0, 0) _ hk7.out Tryd.underlying23 rfl (by rw [HKS.out]; kernel_rfl) ?_))
  refine hkeyc.mono ?_
  rintro e w8 ⟨rfl, hb8⟩
  clear hkeyc
  have hb8' : Below w7.heap.size w7 w8 := hw8.trans (hb8.mono (by simp))
  have hb8w := below_next hb7' hb7'.size hb8'
  have hk8 := row_next hk7 hb8'
  have hr8 := hr7.keep hb8'
  clear hb8 hw8 hb8' hb7' hk7 hr7
  go_wp2_with ((with_reducible refine wpList_store_row rfl 23 (.tmp 10) (.tmp 44) rfl w8.heap.size (bv X).toArray rfl rfl 23 _ (heap_alloc_new _ _) (by rw [HXS.out]; kernel_rfl) (by rw [HXS.out]; exact HZ3.out) (all_oneCell_toArray (bv_one _)) ?_); rw [World.setRow_alloc_new])
  have hw9 : Below w8.heap.size w8 (w8.alloc (.cells (bv X).toArray 23)) := (Below.refl _ _).alloc (Nat.le_refl _) _
  have hX9 : Hid ((w8.alloc (.cells (bv X).toArray 23)).heap[w8.heap.size]? = some (.cells (bv X).toArray 23 (0, 0))) := heap_alloc_new _ _
  have hk9 := row_next hk8 hw9
  have hb9 := below_next hb8w hb8w.size hw9
  have hr9 := hr8.keep hw9
  generalize hW9 : w8.alloc (.cells (bv X).toArray 23) = w9 at *
  have hcx : ∀ W, Below w9.heap.size w9 W → (convert 24 9 (.slice A7 32 c7)).run Tryd.prog W = .ok (.string ⟨X.toArray⟩) W := fun W h =>
    conv_bytes Tryd.underlying24 Tryd.underlying5 Tryd.underlying9 (hr9.byt.below h) 32 c7 HXL.out
  have hck : ∀ W, Below w9.heap.size w9 W → (convert 24 9 (.slice (some ⟨w8.heap.size, 0, none⟩) 32 32)).run Tryd.prog W = .ok (.string ⟨X.toArray⟩) W := fun W h =>
    conv_bytes Tryd.underlying24 Tryd.underlying5 Tryd.underlying9 ((byt_row hX9.out).below h) 32 32 HXL.out
  have hcut1 := cut_all Tryd.underlying23 Tryd.sizeByte w8.heap.size 0 (by decide)
  have hcut2 := cut_all Tryd.underlying23 Tryd.sizeByte w.heap.size 0 (by decide)
  have hB9 : ∀ W, Below w9.heap.size w9 W → Below w.heap.size w W := fun W h => below_next hb9 hb9.size h
  have HR := Lib.hid hr9
  have hlab : (a ++ b).data.toList = a.data.toList ++ b.data.toList := by simp
  obtain ⟨T, hT⟩ : ∃ T, T = macOf key (a.data.toList ++ b.data.toList) := ⟨_, rfl⟩
  have hTl : T.length = 32 := by rw [hT]; exact macOf_len _ _
  have hT2 := Lib.hid (show macOf key [a.data.toList, b.data.toList].flatten = T by rw [hT]; simp)
  have hT1 := Lib.hid (show macOf key [(a ++ b).data.toList].flatten = T by rw [hT, ← hlab]; simp)
  have hL2 : [a.data.toList, b.data.toList].flatten.length ≤ 1099511627776 := by simp; omega
  have hL1 : [(a ++ b).data.toList].flatten.length ≤ 1099511627776 := by simp; omega
  have heq := eql_bytes_same Tryd.underlying23 Tryd.underlying5 Tryd.sizeByte T hTl
  have hcat : ¬ 9223372036854775807 < a.size + b.size := by omega
  clear hW9 hr9 hr8 hw9 hk8 hlab hT hTl
  go_wp2_with fail
  refine wp_region_held_drew (S := (fun W => Below w9.heap.size w9 W)) (by kernel_rfl) ((Below.refl _ _).drew) (fun hHeld => ?_)
  refine wpAnyH_take (i := 0) (oi := ⟨(some 45), _, _, _, _, _⟩) (v := ?vq2_0) rfl (by kernel_rfl) (by kernel_rfl) (by kernel_rfl) (fun _ _ _ h => h) (Or.inl ⟨by rfl, ?yq2_0⟩) hHeld ?_
  case yq2_0 => (intro W0 hSw; go_simp; try with_reducible rfl)
  try simp only [Act.put, List.setIfInBounds_toArray, List.set_cons_zero, List.set_cons_succ]
  refine wpAnyH_take (i := 1) (oi := ⟨(some 46), _, _, _, _, _⟩) (v := ?vq2_1) rfl (by kernel_rfl) (by kernel_rfl) (by kernel_rfl) (fun _ _ _ h => h) (Or.inl ⟨by rfl, ?yq2_1⟩) hHeld ?_
  case yq2_1 => (intro W0 hSw; go_simp; try with_reducible rfl)
  try simp only [Act.put, List.setIfInBounds_toArray, List.set_cons_zero, List.set_cons_succ]
  refine wpAnyH_take (i := 2) (oi := ⟨(some 47), _, _, _, _, _⟩) (v := ?vq2_2) rfl (by kernel_rfl) (by kernel_rfl) (by kernel_rfl) (fun _ _ _ h => h) (Or.inl ⟨by rfl, ?yq2_2⟩) hHeld ?_
  case yq2_2 => (intro W0 hSw; go_simp; try with_reducible rfl)
  try simp only [Act.put, List.setIfInBounds_toArray, List.set_cons_zero, List.set_cons_succ]
  refine wpAnyH_take (i := 3) (oi := ⟨(some 48), _, _, _, _, _⟩) (v := ?vq2_3) rfl (by kernel_rfl) (by kernel_rfl) (by kernel_rfl) (fun _ _ _ h => h) (Or.inl ⟨by rfl, ?yq2_3⟩) hHeld ?_
  case yq2_3 => (intro W0 hSw; go_simp; try with_reducible rfl)
  try simp only [Act.put, List.setIfInBounds_toArray, List.set_cons_zero, List.set_cons_succ]
  refine wpAnyH_take (i := 4) (oi := ⟨(some 49), _, _, _, _, _⟩) (v := ?vq2_4) rfl (by kernel_rfl) (by kernel_rfl) (by kernel_rfl) (fun _ _ _ h => h) (Or.inl ⟨by rfl, ?yq2_4⟩) hHeld ?_
  case yq2_4 => (intro W0 hSw; go_simp; try with_reducible rfl)
  try simp only [Act.put, List.setIfInBounds_toArray, List.set_cons_zero, List.set_cons_succ]
  refine wpAnyH_take (i := 5) (oi := ⟨(some 50), _, _, _, _, _⟩) (v := ?vq2_5) rfl (by kernel_rfl) (by kernel_rfl) (by kernel_rfl) (fun _ _ _ h => h) (Or.inl ⟨by rfl, ?yq2_5⟩) hHeld ?_
  case yq2_5 => (intro W0 hSw; go_simp; try with_reducible rfl)
  try simp only [Act.put, List.setIfInBounds_toArray, List.set_cons_zero, List.set_cons_succ]
  refine wpAnyH_take (i := 6) (oi := ⟨(some 51), _, _, _, _, _⟩) (v := ?vq2_6) rfl (by kernel_rfl) (by kernel_rfl) (by kernel_rfl) (fun _ _ _ h => h) (Or.inl ⟨by rfl, ?yq2_6⟩) hHeld ?_
  case yq2_6 => (intro W0 hSw; go_simp; try with_reducible rfl)
  try simp only [Act.put, List.setIfInBounds_toArray, List.set_cons_zero, List.set_cons_succ]
  refine wpAnyH_take (i := 7) (oi := ⟨(some 52), _, _, _, _, _⟩) (v := ?vq2_7) rfl (by kernel_rfl) (by kernel_rfl) (by kernel_rfl) (fun _ _ _ h => h) (Or.inl ⟨by rfl, ?yq2_7⟩) hHeld ?_
  case yq2_7 => (intro W0 hSw; go_simp; try with_reducible rfl)
  try simp only [Act.put, List.setIfInBounds_toArray, List.set_cons_zero, List.set_cons_succ]
  refine wpAnyH_take (i := 8) (oi := ⟨(some 53), _, _, _, _, _⟩) (v := ?vq2_8) rfl (by kernel_rfl) (by kernel_rfl) (by kernel_rfl) (fun _ _ _ h => h) (Or.inl ⟨by rfl, ?yq2_8⟩) hHeld ?_
  case yq2_8 => (intro W0 hSw; go_simp; try with_reducible rfl)
  try simp only [Act.put, List.setIfInBounds_toArray, List.set_cons_zero, List.set_cons_succ]
  refine wpAnyH_take (i := 9) (oi := ⟨(some 54), _, _, _, _, _⟩) (v := ?vq2_9) rfl (by kernel_rfl) (by kernel_rfl) (by kernel_rfl) (fun _ _ _ h => h) (Or.inl ⟨by rfl, ?yq2_9⟩) hHeld ?_
  case yq2_9 => (intro W0 hSw; go_simp; try with_reducible rfl)
  try simp only [Act.put, List.setIfInBounds_toArray, List.set_cons_zero, List.set_cons_succ]
  refine wpAnyH_take (i := 10) (oi := ⟨(some 55), _, _, _, _, _⟩) (v := ?vq2_10) rfl (by kernel_rfl) (by kernel_rfl) (by kernel_rfl) (fun _ _ _ h => h) (Or.inl ⟨by rfl, ?yq2_10⟩) hHeld ?_
  case yq2_10 => (intro W0 hSw; go_simp; try with_reducible rfl)
  try simp only [Act.put, List.setIfInBounds_toArray, List.set_cons_zero, List.set_cons_succ]
  refine wpAnyH_take (i := 11) (oi := ⟨(some 56), _, _, _, _, _⟩) (v := ?vq2_11) rfl (by kernel_rfl) (by kernel_rfl) (by kernel_rfl) (fun _ _ _ h => h) (Or.inl ⟨by rfl, ?yq2_11⟩) hHeld ?_
  case yq2_11 => (intro W0 hSw; go_simp; try with_reducible rfl)
  try simp only [Act.put, List.setIfInBounds_toArray, List.set_cons_zero, List.set_cons_succ]
  refine wpAnyH_take (i := 13) (oi := ⟨(some 58), _, _, _, _, _⟩) (v := ?vq2_12) rfl (by kernel_rfl) (by kernel_rfl) (by kernel_rfl) (fun _ _ _ h => h) (Or.inl ⟨by rfl, ?yq2_12⟩) hHeld ?_
  case yq2_12 => (intro W0 hSw; go_simp; try with_reducible rfl)
  try simp only [Act.put, List.setIfInBounds_toArray, List.set_cons_zero, List.set_cons_succ]
  refine wpAnyH_take (i := 17) (oi := ⟨(some 62), _, _, _, _, _⟩) (v := ?vq2_13) rfl (by kernel_rfl) (by kernel_rfl) (by kernel_rfl) (fun _ _ _ h => h) (Or.inl ⟨by rfl, ?yq2_13⟩) hHeld ?_
  case yq2_13 => (intro W0 hSw; go_simp; try with_reducible rfl)
  try simp only [Act.put, List.setIfInBounds_toArray, List.set_cons_zero, List.set_cons_succ]
  refine wpAnyH_take (i := 18) (oi := ⟨(some 63), _, _, _, _, _⟩) (v := ?vq2_14) rfl (by kernel_rfl) (by kernel_rfl) (by kernel_rfl) (fun _ _ _ h => h) (Or.inl ⟨by rfl, ?yq2_14⟩) hHeld ?_
  case yq2_14 => (intro W0 hSw; go_simp; try with_reducible rfl)
  try simp only [Act.put, List.setIfInBounds_toArray, List.set_cons_zero, List.set_cons_succ]
  refine wpAnyH_take (i := 19) (oi := ⟨(some 64), _, _, _, _, _⟩) (v := ?vq2_15) rfl (by kernel_rfl) (by kernel_rfl) (by kernel_rfl) (fun _ _ _ h => h) (Or.inl ⟨by rfl, ?yq2_15⟩) hHeld ?_
  case yq2_15 => (intro W0 hSw; go_simp; try with_reducible rfl)
  try simp only [Act.put, List.setIfInBounds_toArray, List.set_cons_zero, List.set_cons_succ]
  refine wpAnyH_take (i := 20) (oi := ⟨(some 65), _, _, _, _, _⟩) (v := ?vq2_16) rfl (by kernel_rfl) (by kernel_rfl) (by kernel_rfl) (fun _ _ _ h => h) (Or.inl ⟨by rfl, ?yq2_16⟩) hHeld ?_
  case yq2_16 => (intro W0 hSw; go_simp; try with_reducible rfl)
  try simp only [Act.put, List.setIfInBounds_toArray, List.set_cons_zero, List.set_cons_succ]
  refine wpAnyH_ready (rs := [12, 14, 21]) (by kernel_rfl) (by simp) ?_
  refine AllReadyH.cons (i := 12) (o := ⟨(some 57), _, _, _, _, _⟩) rfl (fun K hK => ?_) (AllReadyH.cons (i := 14) (o := ⟨(some 59), _, _, _, _, _⟩) rfl (fun K hK => ?_) (AllReadyH.cons (i := 21) (o := ⟨(some 66), _, _, _, _, _⟩) rfl (fun K hK => ?_) AllReadyH.nil))
  · refine step_conv (by rfl) 9 24 5 (.tmp 56) rfl Tryd.underlying9 Tryd.underlying24 Tryd.underlying5 a (by rfl) ?_
    intro A12 c12 W1 f12 l12 g1
    refine hK.out _ _ (below_next hHeld hHeld.size g1) (fun hHeld => ?_)
    clear hK K
    try simp only [Act.put, List.setIfInBounds_toArray, List.set_cons_zero, List.set_cons_succ]
    refine wpAnyH_ready (rs := [14, 21]) (by kernel_rfl) (by simp) ?_
    refine AllReadyH.cons (i := 14) (o := ⟨(some 59), _, _, _, _, _⟩) rfl (fun K hK => ?_) (AllReadyH.cons (i := 21) (o := ⟨(some 66), _, _, _, _, _⟩) rfl (fun K hK => ?_) AllReadyH.nil)
    · refine step_conv (by rfl) 9 24 5 (.tmp 58) rfl Tryd.underlying9 Tryd.underlying24 Tryd.underlying5 b (by rfl) ?_
      intro A14 c14 W2 f14 l14 g2
      refine hK.out _ _ (below_next hHeld hHeld.size g2) (fun hHeld => ?_)
      clear hK K
      try simp only [Act.put, List.setIfInBounds_toArray, List.set_cons_zero, List.set_cons_succ]
      refine wpAnyH_ready (rs := [15, 21]) (by kernel_rfl) (by simp) ?_
      refine AllReadyH.cons (i := 15) (o := ⟨(some 60), _, _, _, _, _⟩) rfl (fun K hK => ?_) (AllReadyH.cons (i := 21) (o := ⟨(some 66), _, _, _, _, _⟩) rfl (fun K hK => ?_) AllReadyH.nil)
      · refine step_two (by rfl) (.tmp 57) (.tmp 59) rfl A12 A14 a.data.toList b.data.toList a.size c12 b.size c14 (by rfl) (by rfl) ((f12).next g2) (size_list a) l12 (f14) (size_list b) l14 ?_
        intro A15 W3 f15 g3
        refine hK.out _ _ (below_next hHeld hHeld.size g3) (fun hHeld => ?_)
        clear hK K
        try simp only [Act.put, List.setIfInBounds_toArray, List.set_cons_zero, List.set_cons_succ]
        refine wpAnyH_ready (rs := [16, 21]) (by kernel_rfl) (by simp) ?_
        refine AllReadyH.cons (i := 16) (o := ⟨(some 61), _, _, _, _, _⟩) rfl (fun K hK => ?_) (AllReadyH.cons (i := 21) (o := ⟨(some 66), _, _, _, _, _⟩) rfl (fun K hK => ?_) AllReadyH.nil)
        · refine step_mac (by rfl) (.tmp 55) (.tmp 60) rfl (some ⟨w.heap.size, 0, none⟩) A15 key [a.data.toList, b.data.toList] 32 32 2 2 (by rfl) (by rfl) (byt_row (row_next hk9 hHeld).out) HKL.out (by omega) (by omega) (f15) rfl (by omega) (hL2) (hla.below hla.2.2 (hB9 _ hHeld)) ?_
          intro W4 g4
          rw [hT2.out]
          refine hK.out _ _ (below_next hHeld hHeld.size g4) (fun hHeld => ?_)
          clear hK K
          try simp only [Act.put, List.setIfInBounds_toArray, List.set_cons_zero, List.set_cons_succ]
          refine wpAnyH_ready (rs := [21]) (by kernel_rfl) (by simp) ?_
          refine AllReadyH.cons (i := 21) (o := ⟨(some 66), _, _, _, _, _⟩) rfl (fun K hK => ?_) AllReadyH.nil
          refine step_conv (by rfl) 9 24 5 (.tmp 65) rfl Tryd.underlying9 Tryd.underlying24 Tryd.underlying5 (a ++ b) (by rfl) ?_
          intro A21 c21 W5 f21 l21 g5
          refine hK.out _ _ (below_next hHeld hHeld.size g5) (fun hHeld => ?_)
          clear hK K
          try simp only [Act.put, List.setIfInBounds_toArray, List.set_cons_zero, List.set_cons_succ]
          refine wpAnyH_ready (rs := [22]) (by kernel_rfl) (by simp) ?_
          refine AllReadyH.cons (i := 22) (o := ⟨(some 67), _, _, _, _, _⟩) rfl (fun K hK => ?_) AllReadyH.nil
          refine step_one (by rfl) (.tmp 66) rfl A21 (a ++ b).data.toList (a ++ b).size c21 (by rfl) (f21) (size_list (a ++ b)) l21 ?_
          intro A22 W6 f22 g6
          refine hK.out _ _ (below_next hHeld hHeld.size g6) (fun hHeld => ?_)
          clear hK K
          try simp only [Act.put, List.setIfInBounds_toArray, List.set_cons_zero, List.set_cons_succ]
          refine wpAnyH_ready (rs := [23]) (by kernel_rfl) (by simp) ?_
          refine AllReadyH.cons (i := 23) (o := ⟨(some 68), _, _, _, _, _⟩) rfl (fun K hK => ?_) AllReadyH.nil
          refine step_mac (by rfl) (.tmp 62) (.tmp 67) rfl (some ⟨w.heap.size, 0, none⟩) A22 key [(a ++ b).data.toList] 32 32 1 1 (by rfl) (by rfl) (byt_row (row_next hk9 hHeld).out) HKL.out (by omega) (by omega) (f22) rfl (by omega) (hL1) (hla.below hla.2.2 (hB9 _ hHeld)) ?_
          intro W7 g7
          rw [hT1.out]
          refine hK.out _ _ (below_next hHeld hHeld.size g7) (fun hHeld => ?_)
          clear hK K
          try simp only [Act.put, List.setIfInBounds_toArray, List.set_cons_zero, List.set_cons_succ]
          refine wpAnyH_take (i := 24) (oi := ⟨(some 69), _, _, _, _, _⟩) (v := ?vt12_14_15_16_21_22_23_24) rfl (by kernel_rfl) (by kernel_rfl) (by kernel_rfl) (fun _ _ _ h => h) (Or.inl ⟨by rfl, ?yt12_14_15_16_21_22_23_24⟩) hHeld ?_
          case yt12_14_15_16_21_22_23_24 => (intro W0 hSw; go_simp; try with_reducible rfl)
          try simp only [Act.put, List.setIfInBounds_toArray, List.set_cons_zero, List.set_cons_succ]
          refine wpAnyH_take (i := 25) (oi := ⟨(some 70), _, _, _, _, _⟩) (v := ?vt12_14_15_16_21_22_23_25) rfl (by kernel_rfl) (by kernel_rfl) (by kernel_rfl) (fun _ _ _ h => h) (Or.inl ⟨by rfl, ?yt12_14_15_16_21_22_23_25⟩) hHeld ?_
          case yt12_14_15_16_21_22_23_25 => (intro W0 hSw; go_simp; try with_reducible rfl)
          try simp only [Act.put, List.setIfInBounds_toArray, List.set_cons_zero, List.set_cons_succ]
          refine wpAnyH_take (i := 26) (oi := ⟨(some 6), _, _, _, _, _⟩) (v := ?vt12_14_15_16_21_22_23_26) rfl (by kernel_rfl) (by kernel_rfl) (by kernel_rfl) (fun _ _ _ h => h) (Or.inl ⟨by rfl, ?yt12_14_15_16_21_22_23_26⟩) hHeld ?_
          case yt12_14_15_16_21_22_23_26 => (intro W0 hSw; go_simp; try with_reducible rfl)
          try simp only [Act.put, List.setIfInBounds_toArray, List.set_cons_zero, List.set_cons_succ]
          refine wpAnyH_done (by kernel_rfl) ?_ _
          go_wp2_with fail
          go_ret
          exact ⟨rfl, hB9 _ hHeld⟩
        · refine step_conv (by rfl) 9 24 5 (.tmp 65) rfl Tryd.underlying9 Tryd.underlying24 Tryd.underlying5 (a ++ b) (by rfl) ?_
          intro A21 c21 W4 f21 l21 g4
          refine hK.out _ _ (below_next hHeld hHeld.size g4) (fun hHeld => ?_)
          clear hK K
          try simp only [Act.put, List.setIfInBounds_toArray, List.set_cons_zero, List.set_cons_succ]
          refine wpAnyH_ready (rs := [16, 22]) (by kernel_rfl) (by simp) ?_
          refine AllReadyH.cons (i := 16) (o := ⟨(some 61), _, _, _, _, _⟩) rfl (fun K hK => ?_) (AllReadyH.cons (i := 22) (o := ⟨(some 67), _, _, _, _, _⟩) rfl (fun K hK => ?_) AllReadyH.nil)
          · refine step_mac (by rfl) (.tmp 55) (.tmp 60) rfl (some ⟨w.heap.size, 0, none⟩) A15 key [a.data.toList, b.data.toList] 32 32 2 2 (by rfl) (by rfl) (byt_row (row_next hk9 hHeld).out) HKL.out (by omega) (by omega) ((f15).next g4) rfl (by omega) (hL2) (hla.below hla.2.2 (hB9 _ hHeld)) ?_
            intro W5 g5
            rw [hT2.out]
            refine hK.out _ _ (below_next hHeld hHeld.size g5) (fun hHeld => ?_)
            clear hK K
            try simp only [Act.put, List.setIfInBounds_toArray, List.set_cons_zero, List.set_cons_succ]
            refine wpAnyH_ready (rs := [22]) (by kernel_rfl) (by simp) ?_
            refine AllReadyH.cons (i := 22) (o := ⟨(some 67), _, _, _, _, _⟩) rfl (fun K hK => ?_) AllReadyH.nil
            refine step_one (by rfl) (.tmp 66) rfl A21 (a ++ b).data.toList (a ++ b).size c21 (by rfl) ((f21).next g5) (size_list (a ++ b)) l21 ?_
            intro A22 W6 f22 g6
            refine hK.out _ _ (below_next hHeld hHeld.size g6) (fun hHeld => ?_)
            clear hK K
            try simp only [Act.put, List.setIfInBounds_toArray, List.set_cons_zero, List.set_cons_succ]
            refine wpAnyH_ready (rs := [23]) (by kernel_rfl) (by simp) ?_
            refine AllReadyH.cons (i := 23) (o := ⟨(some 68), _, _, _, _, _⟩) rfl (fun K hK => ?_) AllReadyH.nil
            refine step_mac (by rfl) (.tmp 62) (.tmp 67) rfl (some ⟨w.heap.size, 0, none⟩) A22 key [(a ++ b).data.toList] 32 32 1 1 (by rfl) (by rfl) (byt_row (row_next hk9 hHeld).out) HKL.out (by omega) (by omega) (f22) rfl (by omega) (hL1) (hla.below hla.2.2 (hB9 _ hHeld)) ?_
            intro W7 g7
            rw [hT1.out]
            refine hK.out _ _ (below_next hHeld hHeld.size g7) (fun hHeld => ?_)
            clear hK K
            try simp only [Act.put, List.setIfInBounds_toArray, List.set_cons_zero, List.set_cons_succ]
            refine wpAnyH_take (i := 24) (oi := ⟨(some 69), _, _, _, _, _⟩) (v := ?vt12_14_15_21_16_22_23_24) rfl (by kernel_rfl) (by kernel_rfl) (by kernel_rfl) (fun _ _ _ h => h) (Or.inl ⟨by rfl, ?yt12_14_15_21_16_22_23_24⟩) hHeld ?_
            case yt12_14_15_21_16_22_23_24 => (intro W0 hSw; go_simp; try with_reducible rfl)
            try simp only [Act.put, List.setIfInBounds_toArray, List.set_cons_zero, List.set_cons_succ]
            refine wpAnyH_take (i := 25) (oi := ⟨(some 70), _, _, _, _, _⟩) (v := ?vt12_14_15_21_16_22_23_25) rfl (by kernel_rfl) (by kernel_rfl) (by kernel_rfl) (fun _ _ _ h => h) (Or.inl ⟨by rfl, ?yt12_14_15_21_16_22_23_25⟩) hHeld ?_
            case yt12_14_15_21_16_22_23_25 => (intro W0 hSw; go_simp; try with_reducible rfl)
            try simp only [Act.put, List.setIfInBounds_toArray, List.set_cons_zero, List.set_cons_succ]
            refine wpAnyH_take (i := 26) (oi := ⟨(some 6), _, _, _, _, _⟩) (v := ?vt12_14_15_21_16_22_23_26) rfl (by kernel_rfl) (by kernel_rfl) (by kernel_rfl) (fun _ _ _ h => h) (Or.inl ⟨by rfl, ?yt12_14_15_21_16_22_23_26⟩) hHeld ?_
            case yt12_14_15_21_16_22_23_26 => (intro W0 hSw; go_simp; try with_reducible rfl)
            try simp only [Act.put, List.setIfInBounds_toArray, List.set_cons_zero, List.set_cons_succ]
            refine wpAnyH_done (by kernel_rfl) ?_ _
            go_wp2_with fail
            go_ret
            exact ⟨rfl, hB9 _ hHeld⟩
          · refine step_one (by rfl) (.tmp 66) rfl A21 (a ++ b).data.toList (a ++ b).size c21 (by rfl) (f21) (size_list (a ++ b)) l21 ?_
            intro A22 W5 f22 g5
            refine hK.out _ _ (below_next hHeld hHeld.size g5) (fun hHeld => ?_)
            clear hK K
            try simp only [Act.put, List.setIfInBounds_toArray, List.set_cons_zero, List.set_cons_succ]
            refine wpAnyH_ready (rs := [16]) (by kernel_rfl) (by simp) ?_
            refine AllReadyH.cons (i := 16) (o := ⟨(some 61), _, _, _, _, _⟩) rfl (fun K hK => ?_) AllReadyH.nil
            refine step_mac (by rfl) (.tmp 55) (.tmp 60) rfl (some ⟨w.heap.size, 0, none⟩) A15 key [a.data.toList, b.data.toList] 32 32 2 2 (by rfl) (by rfl) (byt_row (row_next hk9 hHeld).out) HKL.out (by omega) (by omega) (((f15).next g4).next g5) rfl (by omega) (hL2) (hla.below hla.2.2 (hB9 _ hHeld)) ?_
            intro W6 g6
            rw [hT2.out]
            refine hK.out _ _ (below_next hHeld hHeld.size g6) (fun hHeld => ?_)
            clear hK K
            try simp only [Act.put, List.setIfInBounds_toArray, List.set_cons_zero, List.set_cons_succ]
            refine wpAnyH_ready (rs := [23]) (by kernel_rfl) (by simp) ?_
            refine AllReadyH.cons (i := 23) (o := ⟨(some 68), _, _, _, _, _⟩) rfl (fun K hK => ?_) AllReadyH.nil
            refine step_mac (by rfl) (.tmp 62) (.tmp 67) rfl (some ⟨w.heap.size, 0, none⟩) A22 key [(a ++ b).data.toList] 32 32 1 1 (by rfl) (by rfl) (byt_row (row_next hk9 hHeld).out) HKL.out (by omega) (by omega) ((f22).next g6) rfl (by omega) (hL1) (hla.below hla.2.2 (hB9 _ hHeld)) ?_
            intro W7 g7
            rw [hT1.out]
            refine hK.out _ _ (below_next hHeld hHeld.size g7) (fun hHeld => ?_)
            clear hK K
            try simp only [Act.put, List.setIfInBounds_toArray, List.set_cons_zero, List.set_cons_succ]
            refine wpAnyH_take (i := 24) (oi := ⟨(some 69), _, _, _, _, _⟩) (v := ?vt12_14_15_21_22_16_23_24) rfl (by kernel_rfl) (by kernel_rfl) (by kernel_rfl) (fun _ _ _ h => h) (Or.inl ⟨by rfl, ?yt12_14_15_21_22_16_23_24⟩) hHeld ?_
            case yt12_14_15_21_22_16_23_24 => (intro W0 hSw; go_simp; try with_reducible rfl)
            try simp only [Act.put, List.setIfInBounds_toArray, List.set_cons_zero, List.set_cons_succ]
            refine wpAnyH_take (i := 25) (oi := ⟨(some 70), _, _, _, _, _⟩) (v := ?vt12_14_15_21_22_16_23_25) rfl (by kernel_rfl) (by kernel_rfl) (by kernel_rfl) (fun _ _ _ h => h) (Or.inl ⟨by rfl, ?yt12_14_15_21_22_16_23_25⟩) hHeld ?_
            case yt12_14_15_21_22_16_23_25 => (intro W0 hSw; go_simp; try with_reducible rfl)
            try simp only [Act.put, List.setIfInBounds_toArray, List.set_cons_zero, List.set_cons_succ]
            refine wpAnyH_take (i := 26) (oi := ⟨(some 6), _, _, _, _, _⟩) (v := ?vt12_14_15_21_22_16_23_26) rfl (by kernel_rfl) (by kernel_rfl) (by kernel_rfl) (fun _ _ _ h => h) (Or.inl ⟨by rfl, ?yt12_14_15_21_22_16_23_26⟩) hHeld ?_
            case yt12_14_15_21_22_16_23_26 => (intro W0 hSw; go_simp; try with_reducible rfl)
            try simp only [Act.put, List.setIfInBounds_toArray, List.set_cons_zero, List.set_cons_succ]
            refine wpAnyH_done (by kernel_rfl) ?_ _
            go_wp2_with fail
            go_ret
            exact ⟨rfl, hB9 _ hHeld⟩
      · refine step_conv (by rfl) 9 24 5 (.tmp 65) rfl Tryd.underlying9 Tryd.underlying24 Tryd.underlying5 (a ++ b) (by rfl) ?_
        intro A21 c21 W3 f21 l21 g3
        refine hK.out _ _ (below_next hHeld hHeld.size g3) (fun hHeld => ?_)
        clear hK K
        try simp only [Act.put, List.setIfInBounds_toArray, List.set_cons_zero, List.set_cons_succ]
        refine wpAnyH_ready (rs := [15, 22]) (by kernel_rfl) (by simp) ?_
        refine AllReadyH.cons (i := 15) (o := ⟨(some 60), _, _, _, _, _⟩) rfl (fun K hK => ?_) (AllReadyH.cons (i := 22) (o := ⟨(some 67), _, _, _, _, _⟩) rfl (fun K hK => ?_) AllReadyH.nil)
        · refine step_two (by rfl) (.tmp 57) (.tmp 59) rfl A12 A14 a.data.toList b.data.toList a.size c12 b.size c14 (by rfl) (by rfl) (((f12).next g2).next g3) (size_list a) l12 ((f14).next g3) (size_list b) l14 ?_
          intro A15 W4 f15 g4
          refine hK.out _ _ (below_next hHeld hHeld.size g4) (fun hHeld => ?_)
          clear hK K
          try simp only [Act.put, List.setIfInBounds_toArray, List.set_cons_zero, List.set_cons_succ]
          refine wpAnyH_ready (rs := [16, 22]) (by kernel_rfl) (by simp) ?_
          refine AllReadyH.cons (i := 16) (o := ⟨(some 61), _, _, _, _, _⟩) rfl (fun K hK => ?_) (AllReadyH.cons (i := 22) (o := ⟨(some 67), _, _, _, _, _⟩) rfl (fun K hK => ?_) AllReadyH.nil)
          · refine step_mac (by rfl) (.tmp 55) (.tmp 60) rfl (some ⟨w.heap.size, 0, none⟩) A15 key [a.data.toList, b.data.toList] 32 32 2 2 (by rfl) (by rfl) (byt_row (row_next hk9 hHeld).out) HKL.out (by omega) (by omega) (f15) rfl (by omega) (hL2) (hla.below hla.2.2 (hB9 _ hHeld)) ?_
            intro W5 g5
            rw [hT2.out]
            refine hK.out _ _ (below_next hHeld hHeld.size g5) (fun hHeld => ?_)
            clear hK K
            try simp only [Act.put, List.setIfInBounds_toArray, List.set_cons_zero, List.set_cons_succ]
            refine wpAnyH_ready (rs := [22]) (by kernel_rfl) (by simp) ?_
            refine AllReadyH.cons (i := 22) (o := ⟨(some 67), _, _, _, _, _⟩) rfl (fun K hK => ?_) AllReadyH.nil
            refine step_one (by rfl) (.tmp 66) rfl A21 (a ++ b).data.toList (a ++ b).size c21 (by rfl) (((f21).next g4).next g5) (size_list (a ++ b)) l21 ?_
            intro A22 W6 f22 g6
            refine hK.out _ _ (below_next hHeld hHeld.size g6) (fun hHeld => ?_)
            clear hK K
            try simp only [Act.put, List.setIfInBounds_toArray, List.set_cons_zero, List.set_cons_succ]
            refine wpAnyH_ready (rs := [23]) (by kernel_rfl) (by simp) ?_
            refine AllReadyH.cons (i := 23) (o := ⟨(some 68), _, _, _, _, _⟩) rfl (fun K hK => ?_) AllReadyH.nil
            refine step_mac (by rfl) (.tmp 62) (.tmp 67) rfl (some ⟨w.heap.size, 0, none⟩) A22 key [(a ++ b).data.toList] 32 32 1 1 (by rfl) (by rfl) (byt_row (row_next hk9 hHeld).out) HKL.out (by omega) (by omega) (f22) rfl (by omega) (hL1) (hla.below hla.2.2 (hB9 _ hHeld)) ?_
            intro W7 g7
            rw [hT1.out]
            refine hK.out _ _ (below_next hHeld hHeld.size g7) (fun hHeld => ?_)
            clear hK K
            try simp only [Act.put, List.setIfInBounds_toArray, List.set_cons_zero, List.set_cons_succ]
            refine wpAnyH_take (i := 24) (oi := ⟨(some 69), _, _, _, _, _⟩) (v := ?vt12_14_21_15_16_22_23_24) rfl (by kernel_rfl) (by kernel_rfl) (by kernel_rfl) (fun _ _ _ h => h) (Or.inl ⟨by rfl, ?yt12_14_21_15_16_22_23_24⟩) hHeld ?_
            case yt12_14_21_15_16_22_23_24 => (intro W0 hSw; go_simp; try with_reducible rfl)
            try simp only [Act.put, List.setIfInBounds_toArray, List.set_cons_zero, List.set_cons_succ]
            refine wpAnyH_take (i := 25) (oi := ⟨(some 70), _, _, _, _, _⟩) (v := ?vt12_14_21_15_16_22_23_25) rfl (by kernel_rfl) (by kernel_rfl) (by kernel_rfl) (fun _ _ _ h => h) (Or.inl ⟨by rfl, ?yt12_14_21_15_16_22_23_25⟩) hHeld ?_
            case yt12_14_21_15_16_22_23_25 => (intro W0 hSw; go_simp; try with_reducible rfl)
            try simp only [Act.put, List.setIfInBounds_toArray, List.set_cons_zero, List.set_cons_succ]
            refine wpAnyH_take (i := 26) (oi := ⟨(some 6), _, _, _, _, _⟩) (v := ?vt12_14_21_15_16_22_23_26) rfl (by kernel_rfl) (by kernel_rfl) (by kernel_rfl) (fun _ _ _ h => h) (Or.inl ⟨by rfl, ?yt12_14_21_15_16_22_23_26⟩) hHeld ?_
            case yt12_14_21_15_16_22_23_26 => (intro W0 hSw; go_simp; try with_reducible rfl)
            try simp only [Act.put, List.setIfInBounds_toArray, List.set_cons_zero, List.set_cons_succ]
            refine wpAnyH_done (by kernel_rfl) ?_ _
            go_wp2_with fail
            go_ret
            exact ⟨rfl, hB9 _ hHeld⟩
          · refine step_one (by rfl) (.tmp 66) rfl A21 (a ++ b).data.toList (a ++ b).size c21 (by rfl) ((f21).next g4) (size_list (a ++ b)) l21 ?_
            intro A22 W5 f22 g5
            refine hK.out _ _ (below_next hHeld hHeld.size g5) (fun hHeld => ?_)
            clear hK K
            try simp only [Act.put, List.setIfInBounds_toArray, List.set_cons_zero, List.set_cons_succ]
            refine wpAnyH_ready (rs := [16]) (by kernel_rfl) (by simp) ?_
            refine AllReadyH.cons (i := 16) (o := ⟨(some 61), _, _, _, _, _⟩) rfl (fun K hK => ?_) AllReadyH.nil
            refine step_mac (by rfl) (.tmp 55) (.tmp 60) rfl (some ⟨w.heap.size, 0, none⟩) A15 key [a.data.toList, b.data.toList] 32 32 2 2 (by rfl) (by rfl) (byt_row (row_next hk9 hHeld).out) HKL.out (by omega) (by omega) ((f15).next g5) rfl (by omega) (hL2) (hla.below hla.2.2 (hB9 _ hHeld)) ?_
            intro W6 g6
            rw [hT2.out]
            refine hK.out _ _ (below_next hHeld hHeld.size g6) (fun hHeld => ?_)
            clear hK K
            try simp only [Act.put, List.setIfInBounds_toArray, List.set_cons_zero, List.set_cons_succ]
            refine wpAnyH_ready (rs := [23]) (by kernel_rfl) (by simp) ?_
            refine AllReadyH.cons (i := 23) (o := ⟨(some 68), _, _, _, _, _⟩) rfl (fun K hK => ?_) AllReadyH.nil
            refine step_mac (by rfl) (.tmp 62) (.tmp 67) rfl (some ⟨w.heap.size, 0, none⟩) A22 key [(a ++ b).data.toList] 32 32 1 1 (by rfl) (by rfl) (byt_row (row_next hk9 hHeld).out) HKL.out (by omega) (by omega) ((f22).next g6) rfl (by omega) (hL1) (hla.below hla.2.2 (hB9 _ hHeld)) ?_
            intro W7 g7
            rw [hT1.out]
            refine hK.out _ _ (below_next hHeld hHeld.size g7) (fun hHeld => ?_)
            clear hK K
            try simp only [Act.put, List.setIfInBounds_toArray, List.set_cons_zero, List.set_cons_succ]
            refine wpAnyH_take (i := 24) (oi := ⟨(some 69), _, _, _, _, _⟩) (v := ?vt12_14_21_15_22_16_23_24) rfl (by kernel_rfl) (by kernel_rfl) (by kernel_rfl) (fun _ _ _ h => h) (Or.inl ⟨by rfl, ?yt12_14_21_15_22_16_23_24⟩) hHeld ?_
            case yt12_14_21_15_22_16_23_24 => (intro W0 hSw; go_simp; try with_reducible rfl)
            try simp only [Act.put, List.setIfInBounds_toArray, List.set_cons_zero, List.set_cons_succ]
            refine wpAnyH_take (i := 25) (oi := ⟨(some 70), _, _, _, _, _⟩) (v := ?vt12_14_21_15_22_16_23_25) rfl (by kernel_rfl) (by kernel_rfl) (by kernel_rfl) (fun _ _ _ h => h) (Or.inl ⟨by rfl, ?yt12_14_21_15_22_16_23_25⟩) hHeld ?_
            case yt12_14_21_15_22_16_23_25 => (intro W0 hSw; go_simp; try with_reducible rfl)
            try simp only [Act.put, List.setIfInBounds_toArray, List.set_cons_zero, List.set_cons_succ]
            refine wpAnyH_take (i := 26) (oi := ⟨(some 6), _, _, _, _, _⟩) (v := ?vt12_14_21_15_22_16_23_26) rfl (by kernel_rfl) (by kernel_rfl) (by kernel_rfl) (fun _ _ _ h => h) (Or.inl ⟨by rfl, ?yt12_14_21_15_22_16_23_26⟩) hHeld ?_
            case yt12_14_21_15_22_16_23_26 => (intro W0 hSw; go_simp; try with_reducible rfl)
            try simp only [Act.put, List.setIfInBounds_toArray, List.set_cons_zero, List.set_cons_succ]
            refine wpAnyH_done (by kernel_rfl) ?_ _
            go_wp2_with fail
            go_ret
            exact ⟨rfl, hB9 _ hHeld⟩
        · refine step_one (by rfl) (.tmp 66) rfl A21 (a ++ b).data.toList (a ++ b).size c21 (by rfl) (f21) (size_list (a ++ b)) l21 ?_
          intro A22 W4 f22 g4
          refine hK.out _ _ (below_next hHeld hHeld.size g4) (fun hHeld => ?_)
          clear hK K
          try simp only [Act.put, List.setIfInBounds_toArray, List.set_cons_zero, List.set_cons_succ]
          refine wpAnyH_ready (rs := [15]) (by kernel_rfl) (by simp) ?_
          refine AllReadyH.cons (i := 15) (o := ⟨(some 60), _, _, _, _, _⟩) rfl (fun K hK => ?_) AllReadyH.nil
          refine step_two (by rfl) (.tmp 57) (.tmp 59) rfl A12 A14 a.data.toList b.data.toList a.size c12 b.size c14 (by rfl) (by rfl) ((((f12).next g2).next g3).next g4) (size_list a) l12 (((f14).next g3).next g4) (size_list b) l14 ?_
          intro A15 W5 f15 g5
          refine hK.out _ _ (below_next hHeld hHeld.size g5) (fun hHeld => ?_)
          clear hK K
          try simp only [Act.put, List.setIfInBounds_toArray, List.set_cons_zero, List.set_cons_succ]
          refine wpAnyH_ready (rs := [16]) (by kernel_rfl) (by simp) ?_
          refine AllReadyH.cons (i := 16) (o := ⟨(some 61), _, _, _, _, _⟩) rfl (fun K hK => ?_) AllReadyH.nil
          refine step_mac (by rfl) (.tmp 55) (.tmp 60) rfl (some ⟨w.heap.size, 0, none⟩) A15 key [a.data.toList, b.data.toList] 32 32 2 2 (by rfl) (by rfl) (byt_row (row_next hk9 hHeld).out) HKL.out (by omega) (by omega) (f15) rfl (by omega) (hL2) (hla.below hla.2.2 (hB9 _ hHeld)) ?_
          intro W6 g6
          rw [hT2.out]
          refine hK.out _ _ (below_next hHeld hHeld.size g6) (fun hHeld => ?_)
          clear hK K
          try simp only [Act.put, List.setIfInBounds_toArray, List.set_cons_zero, List.set_cons_succ]
          refine wpAnyH_ready (rs := [23]) (by kernel_rfl) (by simp) ?_
          refine AllReadyH.cons (i := 23) (o := ⟨(some 68), _, _, _, _, _⟩) rfl (fun K hK => ?_) AllReadyH.nil
          refine step_mac (by rfl) (.tmp 62) (.tmp 67) rfl (some ⟨w.heap.size, 0, none⟩) A22 key [(a ++ b).data.toList] 32 32 1 1 (by rfl) (by rfl) (byt_row (row_next hk9 hHeld).out) HKL.out (by omega) (by omega) (((f22).next g5).next g6) rfl (by omega) (hL1) (hla.below hla.2.2 (hB9 _ hHeld)) ?_
          intro W7 g7
          rw [hT1.out]
          refine hK.out _ _ (below_next hHeld hHeld.size g7) (fun hHeld => ?_)
          clear hK K
          try simp only [Act.put, List.setIfInBounds_toArray, List.set_cons_zero, List.set_cons_succ]
          refine wpAnyH_take (i := 24) (oi := ⟨(some 69), _, _, _, _, _⟩) (v := ?vt12_14_21_22_15_16_23_24) rfl (by kernel_rfl) (by kernel_rfl) (by kernel_rfl) (fun _ _ _ h => h) (Or.inl ⟨by rfl, ?yt12_14_21_22_15_16_23_24⟩) hHeld ?_
          case yt12_14_21_22_15_16_23_24 => (intro W0 hSw; go_simp; try with_reducible rfl)
          try simp only [Act.put, List.setIfInBounds_toArray, List.set_cons_zero, List.set_cons_succ]
          refine wpAnyH_take (i := 25) (oi := ⟨(some 70), _, _, _, _, _⟩) (v := ?vt12_14_21_22_15_16_23_25) rfl (by kernel_rfl) (by kernel_rfl) (by kernel_rfl) (fun _ _ _ h => h) (Or.inl ⟨by rfl, ?yt12_14_21_22_15_16_23_25⟩) hHeld ?_
          case yt12_14_21_22_15_16_23_25 => (intro W0 hSw; go_simp; try with_reducible rfl)
          try simp only [Act.put, List.setIfInBounds_toArray, List.set_cons_zero, List.set_cons_succ]
          refine wpAnyH_take (i := 26) (oi := ⟨(some 6), _, _, _, _, _⟩) (v := ?vt12_14_21_22_15_16_23_26) rfl (by kernel_rfl) (by kernel_rfl) (by kernel_rfl) (fun _ _ _ h => h) (Or.inl ⟨by rfl, ?yt12_14_21_22_15_16_23_26⟩) hHeld ?_
          case yt12_14_21_22_15_16_23_26 => (intro W0 hSw; go_simp; try with_reducible rfl)
          try simp only [Act.put, List.setIfInBounds_toArray, List.set_cons_zero, List.set_cons_succ]
          refine wpAnyH_done (by kernel_rfl) ?_ _
          go_wp2_with fail
          go_ret
          exact ⟨rfl, hB9 _ hHeld⟩
    · refine step_conv (by rfl) 9 24 5 (.tmp 65) rfl Tryd.underlying9 Tryd.underlying24 Tryd.underlying5 (a ++ b) (by rfl) ?_
      intro A21 c21 W2 f21 l21 g2
      refine hK.out _ _ (below_next hHeld hHeld.size g2) (fun hHeld => ?_)
      clear hK K
      try simp only [Act.put, List.setIfInBounds_toArray, List.set_cons_zero, List.set_cons_succ]
      refine wpAnyH_ready (rs := [14, 22]) (by kernel_rfl) (by simp) ?_
      refine AllReadyH.cons (i := 14) (o := ⟨(some 59), _, _, _, _, _⟩) rfl (fun K hK => ?_) (AllReadyH.cons (i := 22) (o := ⟨(some 67), _, _, _, _, _⟩) rfl (fun K hK => ?_) AllReadyH.nil)
      · refine step_conv (by rfl) 9 24 5 (.tmp 58) rfl Tryd.underlying9 Tryd.underlying24 Tryd.underlying5 b (by rfl) ?_
        intro A14 c14 W3 f14 l14 g3
        refine hK.out _ _ (below_next hHeld hHeld.size g3) (fun hHeld => ?_)
        clear hK K
        try simp only [Act.put, List.setIfInBounds_toArray, List.set_cons_zero, List.set_cons_succ]
        refine wpAnyH_ready (rs := [15, 22]) (by kernel_rfl) (by simp) ?_
        refine AllReadyH.cons (i := 15) (o := ⟨(some 60), _, _, _, _, _⟩) rfl (fun K hK => ?_) (AllReadyH.cons (i := 22) (o := ⟨(some 67), _, _, _, _, _⟩) rfl (fun K hK => ?_) AllReadyH.nil)
        · refine step_two (by rfl) (.tmp 57) (.tmp 59) rfl A12 A14 a.data.toList b.data.toList a.size c12 b.size c14 (by rfl) (by rfl) (((f12).next g2).next g3) (size_list a) l12 (f14) (size_list b) l14 ?_
          intro A15 W4 f15 g4
          refine hK.out _ _ (below_next hHeld hHeld.size g4) (fun hHeld => ?_)
          clear hK K
          try simp only [Act.put, List.setIfInBounds_toArray, List.set_cons_zero, List.set_cons_succ]
          refine wpAnyH_ready (rs := [16, 22]) (by kernel_rfl) (by simp) ?_
          refine AllReadyH.cons (i := 16) (o := ⟨(some 61), _, _, _, _, _⟩) rfl (fun K hK => ?_) (AllReadyH.cons (i := 22) (o := ⟨(some 67), _, _, _, _, _⟩) rfl (fun K hK => ?_) AllReadyH.nil)
          · refine step_mac (by rfl) (.tmp 55) (.tmp 60) rfl (some ⟨w.heap.size, 0, none⟩) A15 key [a.data.toList, b.data.toList] 32 32 2 2 (by rfl) (by rfl) (byt_row (row_next hk9 hHeld).out) HKL.out (by omega) (by omega) (f15) rfl (by omega) (hL2) (hla.below hla.2.2 (hB9 _ hHeld)) ?_
            intro W5 g5
            rw [hT2.out]
            refine hK.out _ _ (below_next hHeld hHeld.size g5) (fun hHeld => ?_)
            clear hK K
            try simp only [Act.put, List.setIfInBounds_toArray, List.set_cons_zero, List.set_cons_succ]
            refine wpAnyH_ready (rs := [22]) (by kernel_rfl) (by simp) ?_
            refine AllReadyH.cons (i := 22) (o := ⟨(some 67), _, _, _, _, _⟩) rfl (fun K hK => ?_) AllReadyH.nil
            refine step_one (by rfl) (.tmp 66) rfl A21 (a ++ b).data.toList (a ++ b).size c21 (by rfl) ((((f21).next g3).next g4).next g5) (size_list (a ++ b)) l21 ?_
            intro A22 W6 f22 g6
            refine hK.out _ _ (below_next hHeld hHeld.size g6) (fun hHeld => ?_)
            clear hK K
            try simp only [Act.put, List.setIfInBounds_toArray, List.set_cons_zero, List.set_cons_succ]
            refine wpAnyH_ready (rs := [23]) (by kernel_rfl) (by simp) ?_
            refine AllReadyH.cons (i := 23) (o := ⟨(some 68), _, _, _, _, _⟩) rfl (fun K hK => ?_) AllReadyH.nil
            refine step_mac (by rfl) (.tmp 62) (.tmp 67) rfl (some ⟨w.heap.size, 0, none⟩) A22 key [(a ++ b).data.toList] 32 32 1 1 (by rfl) (by rfl) (byt_row (row_next hk9 hHeld).out) HKL.out (by omega) (by omega) (f22) rfl (by omega) (hL1) (hla.below hla.2.2 (hB9 _ hHeld)) ?_
            intro W7 g7
            rw [hT1.out]
            refine hK.out _ _ (below_next hHeld hHeld.size g7) (fun hHeld => ?_)
            clear hK K
            try simp only [Act.put, List.setIfInBounds_toArray, List.set_cons_zero, List.set_cons_succ]
            refine wpAnyH_take (i := 24) (oi := ⟨(some 69), _, _, _, _, _⟩) (v := ?vt12_21_14_15_16_22_23_24) rfl (by kernel_rfl) (by kernel_rfl) (by kernel_rfl) (fun _ _ _ h => h) (Or.inl ⟨by rfl, ?yt12_21_14_15_16_22_23_24⟩) hHeld ?_
            case yt12_21_14_15_16_22_23_24 => (intro W0 hSw; go_simp; try with_reducible rfl)
            try simp only [Act.put, List.setIfInBounds_toArray, List.set_cons_zero, List.set_cons_succ]
            refine wpAnyH_take (i := 25) (oi := ⟨(some 70), _, _, _, _, _⟩) (v := ?vt12_21_14_15_16_22_23_25) rfl (by kernel_rfl) (by kernel_rfl) (by kernel_rfl) (fun _ _ _ h => h) (Or.inl ⟨by rfl, ?yt12_21_14_15_16_22_23_25⟩) hHeld ?_
            case yt12_21_14_15_16_22_23_25 => (intro W0 hSw; go_simp; try with_reducible rfl)
            try simp only [Act.put, List.setIfInBounds_toArray, List.set_cons_zero, List.set_cons_succ]
            refine wpAnyH_take (i := 26) (oi := ⟨(some 6), _, _, _, _, _⟩) (v := ?vt12_21_14_15_16_22_23_26) rfl (by kernel_rfl) (by kernel_rfl) (by kernel_rfl) (fun _ _ _ h => h) (Or.inl ⟨by rfl, ?yt12_21_14_15_16_22_23_26⟩) hHeld ?_
            case yt12_21_14_15_16_22_23_26 => (intro W0 hSw; go_simp; try with_reducible rfl)
            try simp only [Act.put, List.setIfInBounds_toArray, List.set_cons_zero, List.set_cons_succ]
            refine wpAnyH_done (by kernel_rfl) ?_ _
            go_wp2_with fail
            go_ret
            exact ⟨rfl, hB9 _ hHeld⟩
          · refine step_one (by rfl) (.tmp 66) rfl A21 (a ++ b).data.toList (a ++ b).size c21 (by rfl) (((f21).next g3).next g4) (size_list (a ++ b)) l21 ?_
            intro A22 W5 f22 g5
            refine hK.out _ _ (below_next hHeld hHeld.size g5) (fun hHeld => ?_)
            clear hK K
            try simp only [Act.put, List.setIfInBounds_toArray, List.set_cons_zero, List.set_cons_succ]
            refine wpAnyH_ready (rs := [16]) (by kernel_rfl) (by simp) ?_
            refine AllReadyH.cons (i := 16) (o := ⟨(some 61), _, _, _, _, _⟩) rfl (fun K hK => ?_) AllReadyH.nil
            refine step_mac (by rfl) (.tmp 55) (.tmp 60) rfl (some ⟨w.heap.size, 0, none⟩) A15 key [a.data.toList, b.data.toList] 32 32 2 2 (by rfl) (by rfl) (byt_row (row_next hk9 hHeld).out) HKL.out (by omega) (by omega) ((f15).next g5) rfl (by omega) (hL2) (hla.below hla.2.2 (hB9 _ hHeld)) ?_
            intro W6 g6
            rw [hT2.out]
            refine hK.out _ _ (below_next hHeld hHeld.size g6) (fun hHeld => ?_)
            clear hK K
            try simp only [Act.put, List.setIfInBounds_toArray, List.set_cons_zero, List.set_cons_succ]
            refine wpAnyH_ready (rs := [23]) (by kernel_rfl) (by simp) ?_
            refine AllReadyH.cons (i := 23) (o := ⟨(some 68), _, _, _, _, _⟩) rfl (fun K hK => ?_) AllReadyH.nil
            refine step_mac (by rfl) (.tmp 62) (.tmp 67) rfl (some ⟨w.heap.size, 0, none⟩) A22 key [(a ++ b).data.toList] 32 32 1 1 (by rfl) (by rfl) (byt_row (row_next hk9 hHeld).out) HKL.out (by omega) (by omega) ((f22).next g6) rfl (by omega) (hL1) (hla.below hla.2.2 (hB9 _ hHeld)) ?_
            intro W7 g7
            rw [hT1.out]
            refine hK.out _ _ (below_next hHeld hHeld.size g7) (fun hHeld => ?_)
            clear hK K
            try simp only [Act.put, List.setIfInBounds_toArray, List.set_cons_zero, List.set_cons_succ]
            refine wpAnyH_take (i := 24) (oi := ⟨(some 69), _, _, _, _, _⟩) (v := ?vt12_21_14_15_22_16_23_24) rfl (by kernel_rfl) (by kernel_rfl) (by kernel_rfl) (fun _ _ _ h => h) (Or.inl ⟨by rfl, ?yt12_21_14_15_22_16_23_24⟩) hHeld ?_
            case yt12_21_14_15_22_16_23_24 => (intro W0 hSw; go_simp; try with_reducible rfl)
            try simp only [Act.put, List.setIfInBounds_toArray, List.set_cons_zero, List.set_cons_succ]
            refine wpAnyH_take (i := 25) (oi := ⟨(some 70), _, _, _, _, _⟩) (v := ?vt12_21_14_15_22_16_23_25) rfl (by kernel_rfl) (by kernel_rfl) (by kernel_rfl) (fun _ _ _ h => h) (Or.inl ⟨by rfl, ?yt12_21_14_15_22_16_23_25⟩) hHeld ?_
            case yt12_21_14_15_22_16_23_25 => (intro W0 hSw; go_simp; try with_reducible rfl)
            try simp only [Act.put, List.setIfInBounds_toArray, List.set_cons_zero, List.set_cons_succ]
            refine wpAnyH_take (i := 26) (oi := ⟨(some 6), _, _, _, _, _⟩) (v := ?vt12_21_14_15_22_16_23_26) rfl (by kernel_rfl) (by kernel_rfl) (by kernel_rfl) (fun _ _ _ h => h) (Or.inl ⟨by rfl, ?yt12_21_14_15_22_16_23_26⟩) hHeld ?_
            case yt12_21_14_15_22_16_23_26 => (intro W0 hSw; go_simp; try with_reducible rfl)
            try simp only [Act.put, List.setIfInBounds_toArray, List.set_cons_zero, List.set_cons_succ]
            refine wpAnyH_done (by kernel_rfl) ?_ _
            go_wp2_with fail
            go_ret
            exact ⟨rfl, hB9 _ hHeld⟩
        · refine step_one (by rfl) (.tmp 66) rfl A21 (a ++ b).data.toList (a ++ b).size c21 (by rfl) ((f21).next g3) (size_list (a ++ b)) l21 ?_
          intro A22 W4 f22 g4
          refine hK.out _ _ (below_next hHeld hHeld.size g4) (fun hHeld => ?_)
          clear hK K
          try simp only [Act.put, List.setIfInBounds_toArray, List.set_cons_zero, List.set_cons_succ]
          refine wpAnyH_ready (rs := [15]) (by kernel_rfl) (by simp) ?_
          refine AllReadyH.cons (i := 15) (o := ⟨(some 60), _, _, _, _, _⟩) rfl (fun K hK => ?_) AllReadyH.nil
          refine step_two (by rfl) (.tmp 57) (.tmp 59) rfl A12 A14 a.data.toList b.data.toList a.size c12 b.size c14 (by rfl) (by rfl) ((((f12).next g2).next g3).next g4) (size_list a) l12 ((f14).next g4) (size_list b) l14 ?_
          intro A15 W5 f15 g5
          refine hK.out _ _ (below_next hHeld hHeld.size g5) (fun hHeld => ?_)
          clear hK K
          try simp only [Act.put, List.setIfInBounds_toArray, List.set_cons_zero, List.set_cons_succ]
          refine wpAnyH_ready (rs := [16]) (by kernel_rfl) (by simp) ?_
          refine AllReadyH.cons (i := 16) (o := ⟨(some 61), _, _, _, _, _⟩) rfl (fun K hK => ?_) AllReadyH.nil
          refine step_mac (by rfl) (.tmp 55) (.tmp 60) rfl (some ⟨w.heap.size, 0, none⟩) A15 key [a.data.toList, b.data.toList] 32 32 2 2 (by rfl) (by rfl) (byt_row (row_next hk9 hHeld).out) HKL.out (by omega) (by omega) (f15) rfl (by omega) (hL2) (hla.below hla.2.2 (hB9 _ hHeld)) ?_
          intro W6 g6
          rw [hT2.out]
          refine hK.out _ _ (below_next hHeld hHeld.size g6) (fun hHeld => ?_)
          clear hK K
          try simp only [Act.put, List.setIfInBounds_toArray, List.set_cons_zero, List.set_cons_succ]
          refine wpAnyH_ready (rs := [23]) (by kernel_rfl) (by simp) ?_
          refine AllReadyH.cons (i := 23) (o := ⟨(some 68), _, _, _, _, _⟩) rfl (fun K hK => ?_) AllReadyH.nil
          refine step_mac (by rfl) (.tmp 62) (.tmp 67) rfl (some ⟨w.heap.size, 0, none⟩) A22 key [(a ++ b).data.toList] 32 32 1 1 (by rfl) (by rfl) (byt_row (row_next hk9 hHeld).out) HKL.out (by omega) (by omega) (((f22).next g5).next g6) rfl (by omega) (hL1) (hla.below hla.2.2 (hB9 _ hHeld)) ?_
          intro W7 g7
          rw [hT1.out]
          refine hK.out _ _ (below_next hHeld hHeld.size g7) (fun hHeld => ?_)
          clear hK K
          try simp only [Act.put, List.setIfInBounds_toArray, List.set_cons_zero, List.set_cons_succ]
          refine wpAnyH_take (i := 24) (oi := ⟨(some 69), _, _, _, _, _⟩) (v := ?vt12_21_14_22_15_16_23_24) rfl (by kernel_rfl) (by kernel_rfl) (by kernel_rfl) (fun _ _ _ h => h) (Or.inl ⟨by rfl, ?yt12_21_14_22_15_16_23_24⟩) hHeld ?_
          case yt12_21_14_22_15_16_23_24 => (intro W0 hSw; go_simp; try with_reducible rfl)
          try simp only [Act.put, List.setIfInBounds_toArray, List.set_cons_zero, List.set_cons_succ]
          refine wpAnyH_take (i := 25) (oi := ⟨(some 70), _, _, _, _, _⟩) (v := ?vt12_21_14_22_15_16_23_25) rfl (by kernel_rfl) (by kernel_rfl) (by kernel_rfl) (fun _ _ _ h => h) (Or.inl ⟨by rfl, ?yt12_21_14_22_15_16_23_25⟩) hHeld ?_
          case yt12_21_14_22_15_16_23_25 => (intro W0 hSw; go_simp; try with_reducible rfl)
          try simp only [Act.put, List.setIfInBounds_toArray, List.set_cons_zero, List.set_cons_succ]
          refine wpAnyH_take (i := 26) (oi := ⟨(some 6), _, _, _, _, _⟩) (v := ?vt12_21_14_22_15_16_23_26) rfl (by kernel_rfl) (by kernel_rfl) (by kernel_rfl) (fun _ _ _ h => h) (Or.inl ⟨by rfl, ?yt12_21_14_22_15_16_23_26⟩) hHeld ?_
          case yt12_21_14_22_15_16_23_26 => (intro W0 hSw; go_simp; try with_reducible rfl)
          try simp only [Act.put, List.setIfInBounds_toArray, List.set_cons_zero, List.set_cons_succ]
          refine wpAnyH_done (by kernel_rfl) ?_ _
          go_wp2_with fail
          go_ret
          exact ⟨rfl, hB9 _ hHeld⟩
      · refine step_one (by rfl) (.tmp 66) rfl A21 (a ++ b).data.toList (a ++ b).size c21 (by rfl) (f21) (size_list (a ++ b)) l21 ?_
        intro A22 W3 f22 g3
        refine hK.out _ _ (below_next hHeld hHeld.size g3) (fun hHeld => ?_)
        clear hK K
        try simp only [Act.put, List.setIfInBounds_toArray, List.set_cons_zero, List.set_cons_succ]
        refine wpAnyH_ready (rs := [14]) (by kernel_rfl) (by simp) ?_
        refine AllReadyH.cons (i := 14) (o := ⟨(some 59), _, _, _, _, _⟩) rfl (fun K hK => ?_) AllReadyH.nil
        refine step_conv (by rfl) 9 24 5 (.tmp 58) rfl Tryd.underlying9 Tryd.underlying24 Tryd.underlying5 b (by rfl) ?_
        intro A14 c14 W4 f14 l14 g4
        refine hK.out _ _ (below_next hHeld hHeld.size g4) (fun hHeld => ?_)
        clear hK K
        try simp only [Act.put, List.setIfInBounds_toArray, List.set_cons_zero, List.set_cons_succ]
        refine wpAnyH_ready (rs := [15]) (by kernel_rfl) (by simp) ?_
        refine AllReadyH.cons (i := 15) (o := ⟨(some 60), _, _, _, _, _⟩) rfl (fun K hK => ?_) AllReadyH.nil
        refine step_two (by rfl) (.tmp 57) (.tmp 59) rfl A12 A14 a.data.toList b.data.toList a.size c12 b.size c14 (by rfl) (by rfl) ((((f12).next g2).next g3).next g4) (size_list a) l12 (f14) (size_list b) l14 ?_
        intro A15 W5 f15 g5
        refine hK.out _ _ (below_next hHeld hHeld.size g5) (fun hHeld => ?_)
        clear hK K
        try simp only [Act.put, List.setIfInBounds_toArray, List.set_cons_zero, List.set_cons_succ]
        refine wpAnyH_ready (rs := [16]) (by kernel_rfl) (by simp) ?_
        refine AllReadyH.cons (i := 16) (o := ⟨(some 61), _, _, _, _, _⟩) rfl (fun K hK => ?_) AllReadyH.nil
        refine step_mac (by rfl) (.tmp 55) (.tmp 60) rfl (some ⟨w.heap.size, 0, none⟩) A15 key [a.data.toList, b.data.toList] 32 32 2 2 (by rfl) (by rfl) (byt_row (row_next hk9 hHeld).out) HKL.out (by omega) (by omega) (f15) rfl (by omega) (hL2) (hla.below hla.2.2 (hB9 _ hHeld)) ?_
        intro W6 g6
        rw [hT2.out]
        refine hK.out _ _ (below_next hHeld hHeld.size g6) (fun hHeld => ?_)
        clear hK K
        try simp only [Act.put, List.setIfInBounds_toArray, List.set_cons_zero, List.set_cons_succ]
        refine wpAnyH_ready (rs := [23]) (by kernel_rfl) (by simp) ?_
        refine AllReadyH.cons (i := 23) (o := ⟨(some 68), _, _, _, _, _⟩) rfl (fun K hK => ?_) AllReadyH.nil
        refine step_mac (by rfl) (.tmp 62) (.tmp 67) rfl (some ⟨w.heap.size, 0, none⟩) A22 key [(a ++ b).data.toList] 32 32 1 1 (by rfl) (by rfl) (byt_row (row_next hk9 hHeld).out) HKL.out (by omega) (by omega) ((((f22).next g4).next g5).next g6) rfl (by omega) (hL1) (hla.below hla.2.2 (hB9 _ hHeld)) ?_
        intro W7 g7
        rw [hT1.out]
        refine hK.out _ _ (below_next hHeld hHeld.size g7) (fun hHeld => ?_)
        clear hK K
        try simp only [Act.put, List.setIfInBounds_toArray, List.set_cons_zero, List.set_cons_succ]
        refine wpAnyH_take (i := 24) (oi := ⟨(some 69), _, _, _, _, _⟩) (v := ?vt12_21_22_14_15_16_23_24) rfl (by kernel_rfl) (by kernel_rfl) (by kernel_rfl) (fun _ _ _ h => h) (Or.inl ⟨by rfl, ?yt12_21_22_14_15_16_23_24⟩) hHeld ?_
        case yt12_21_22_14_15_16_23_24 => (intro W0 hSw; go_simp; try with_reducible rfl)
        try simp only [Act.put, List.setIfInBounds_toArray, List.set_cons_zero, List.set_cons_succ]
        refine wpAnyH_take (i := 25) (oi := ⟨(some 70), _, _, _, _, _⟩) (v := ?vt12_21_22_14_15_16_23_25) rfl (by kernel_rfl) (by kernel_rfl) (by kernel_rfl) (fun _ _ _ h => h) (Or.inl ⟨by rfl, ?yt12_21_22_14_15_16_23_25⟩) hHeld ?_
        case yt12_21_22_14_15_16_23_25 => (intro W0 hSw; go_simp; try with_reducible rfl)
        try simp only [Act.put, List.setIfInBounds_toArray, List.set_cons_zero, List.set_cons_succ]
        refine wpAnyH_take (i := 26) (oi := ⟨(some 6), _, _, _, _, _⟩) (v := ?vt12_21_22_14_15_16_23_26) rfl (by kernel_rfl) (by kernel_rfl) (by kernel_rfl) (fun _ _ _ h => h) (Or.inl ⟨by rfl, ?yt12_21_22_14_15_16_23_26⟩) hHeld ?_
        case yt12_21_22_14_15_16_23_26 => (intro W0 hSw; go_simp; try with_reducible rfl)
        try simp only [Act.put, List.setIfInBounds_toArray, List.set_cons_zero, List.set_cons_succ]
        refine wpAnyH_done (by kernel_rfl) ?_ _
        go_wp2_with fail
        go_ret
        exact ⟨rfl, hB9 _ hHeld⟩
  · refine step_conv (by rfl) 9 24 5 (.tmp 58) rfl Tryd.underlying9 Tryd.underlying24 Tryd.underlying5 b (by rfl) ?_
    intro A14 c14 W1 f14 l14 g1
    refine hK.out _ _ (below_next hHeld hHeld.size g1) (fun hHeld => ?_)
    clear hK K
    try simp only [Act.put, List.setIfInBounds_toArray, List.set_cons_zero, List.set_cons_succ]
    refine wpAnyH_ready (rs := [12, 21]) (by kernel_rfl) (by simp) ?_
    refine AllReadyH.cons (i := 12) (o := ⟨(some 57), _, _, _, _, _⟩) rfl (fun K hK => ?_) (AllReadyH.cons (i := 21) (o := ⟨(some 66), _, _, _, _, _⟩) rfl (fun K hK => ?_) AllReadyH.nil)
    · refine step_conv (by rfl) 9 24 5 (.tmp 56) rfl Tryd.underlying9 Tryd.underlying24 Tryd.underlying5 a (by rfl) ?_
      intro A12 c12 W2 f12 l12 g2
      refine hK.out _ _ (below_next hHeld hHeld.size g2) (fun hHeld => ?_)
      clear hK K
      try simp only [Act.put, List.setIfInBounds_toArray, List.set_cons_zero, List.set_cons_succ]
      refine wpAnyH_ready (rs := [15, 21]) (by kernel_rfl) (by simp) ?_
      refine AllReadyH.cons (i := 15) (o := ⟨(some 60), _, _, _, _, _⟩) rfl (fun K hK => ?_) (AllReadyH.cons (i := 21) (o := ⟨(some 66), _, _, _, _, _⟩) rfl (fun K hK => ?_) AllReadyH.nil)
      · refine step_two (by rfl) (.tmp 57) (.tmp 59) rfl A12 A14 a.data.toList b.data.toList a.size c12 b.size c14 (by rfl) (by rfl) (f12) (size_list a) l12 ((f14).next g2) (size_list b) l14 ?_
        intro A15 W3 f15 g3
        refine hK.out _ _ (below_next hHeld hHeld.size g3) (fun hHeld => ?_)
        clear hK K
        try simp only [Act.put, List.setIfInBounds_toArray, List.set_cons_zero, List.set_cons_succ]
        refine wpAnyH_ready (rs := [16, 21]) (by kernel_rfl) (by simp) ?_
        refine AllReadyH.cons (i := 16) (o := ⟨(some 61), _, _, _, _, _⟩) rfl (fun K hK => ?_) (AllReadyH.cons (i := 21) (o := ⟨(some 66), _, _, _, _, _⟩) rfl (fun K hK => ?_) AllReadyH.nil)
        · refine step_mac (by rfl) (.tmp 55) (.tmp 60) rfl (some ⟨w.heap.size, 0, none⟩) A15 key [a.data.toList, b.data.toList] 32 32 2 2 (by rfl) (by rfl) (byt_row (row_next hk9 hHeld).out) HKL.out (by omega) (by omega) (f15) rfl (by omega) (hL2) (hla.below hla.2.2 (hB9 _ hHeld)) ?_
          intro W4 g4
          rw [hT2.out]
          refine hK.out _ _ (below_next hHeld hHeld.size g4) (fun hHeld => ?_)
          clear hK K
          try simp only [Act.put, List.setIfInBounds_toArray, List.set_cons_zero, List.set_cons_succ]
          refine wpAnyH_ready (rs := [21]) (by kernel_rfl) (by simp) ?_
          refine AllReadyH.cons (i := 21) (o := ⟨(some 66), _, _, _, _, _⟩) rfl (fun K hK => ?_) AllReadyH.nil
          refine step_conv (by rfl) 9 24 5 (.tmp 65) rfl Tryd.underlying9 Tryd.underlying24 Tryd.underlying5 (a ++ b) (by rfl) ?_
          intro A21 c21 W5 f21 l21 g5
          refine hK.out _ _ (below_next hHeld hHeld.size g5) (fun hHeld => ?_)
          clear hK K
          try simp only [Act.put, List.setIfInBounds_toArray, List.set_cons_zero, List.set_cons_succ]
          refine wpAnyH_ready (rs := [22]) (by kernel_rfl) (by simp) ?_
          refine AllReadyH.cons (i := 22) (o := ⟨(some 67), _, _, _, _, _⟩) rfl (fun K hK => ?_) AllReadyH.nil
          refine step_one (by rfl) (.tmp 66) rfl A21 (a ++ b).data.toList (a ++ b).size c21 (by rfl) (f21) (size_list (a ++ b)) l21 ?_
          intro A22 W6 f22 g6
          refine hK.out _ _ (below_next hHeld hHeld.size g6) (fun hHeld => ?_)
          clear hK K
          try simp only [Act.put, List.setIfInBounds_toArray, List.set_cons_zero, List.set_cons_succ]
          refine wpAnyH_ready (rs := [23]) (by kernel_rfl) (by simp) ?_
          refine AllReadyH.cons (i := 23) (o := ⟨(some 68), _, _, _, _, _⟩) rfl (fun K hK => ?_) AllReadyH.nil
          refine step_mac (by rfl) (.tmp 62) (.tmp 67) rfl (some ⟨w.heap.size, 0, none⟩) A22 key [(a ++ b).data.toList] 32 32 1 1 (by rfl) (by rfl) (byt_row (row_next hk9 hHeld).out) HKL.out (by omega) (by omega) (f22) rfl (by omega) (hL1) (hla.below hla.2.2 (hB9 _ hHeld)) ?_
          intro W7 g7
          rw [hT1.out]
          refine hK.out _ _ (below_next hHeld hHeld.size g7) (fun hHeld => ?_)
          clear hK K
          try simp only [Act.put, List.setIfInBounds_toArray, List.set_cons_zero, List.set_cons_succ]
          refine wpAnyH_take (i := 24) (oi := ⟨(some 69), _, _, _, _, _⟩) (v := ?vt14_12_15_16_21_22_23_24) rfl (by kernel_rfl) (by kernel_rfl) (by kernel_rfl) (fun _ _ _ h => h) (Or.inl ⟨by rfl, ?yt14_12_15_16_21_22_23_24⟩) hHeld ?_
          case yt14_12_15_16_21_22_23_24 => (intro W0 hSw; go_simp; try with_reducible rfl)
          try simp only [Act.put, List.setIfInBounds_toArray, List.set_cons_zero, List.set_cons_succ]
          refine wpAnyH_take (i := 25) (oi := ⟨(some 70), _, _, _, _, _⟩) (v := ?vt14_12_15_16_21_22_23_25) rfl (by kernel_rfl) (by kernel_rfl) (by kernel_rfl) (fun _ _ _ h => h) (Or.inl ⟨by rfl, ?yt14_12_15_16_21_22_23_25⟩) hHeld ?_
          case yt14_12_15_16_21_22_23_25 => (intro W0 hSw; go_simp; try with_reducible rfl)
          try simp only [Act.put, List.setIfInBounds_toArray, List.set_cons_zero, List.set_cons_succ]
          refine wpAnyH_take (i := 26) (oi := ⟨(some 6), _, _, _, _, _⟩) (v := ?vt14_12_15_16_21_22_23_26) rfl (by kernel_rfl) (by kernel_rfl) (by kernel_rfl) (fun _ _ _ h => h) (Or.inl ⟨by rfl, ?yt14_12_15_16_21_22_23_26⟩) hHeld ?_
          case yt14_12_15_16_21_22_23_26 => (intro W0 hSw; go_simp; try with_reducible rfl)
          try simp only [Act.put, List.setIfInBounds_toArray, List.set_cons_zero, List.set_cons_succ]
          refine wpAnyH_done (by kernel_rfl) ?_ _
          go_wp2_with fail
          go_ret
          exact ⟨rfl, hB9 _ hHeld⟩
        · refine step_conv (by rfl) 9 24 5 (.tmp 65) rfl Tryd.underlying9 Tryd.underlying24 Tryd.underlying5 (a ++ b) (by rfl) ?_
          intro A21 c21 W4 f21 l21 g4
          refine hK.out _ _ (below_next hHeld hHeld.size g4) (fun hHeld => ?_)
          clear hK K
          try simp only [Act.put, List.setIfInBounds_toArray, List.set_cons_zero, List.set_cons_succ]
          refine wpAnyH_ready (rs := [16, 22]) (by kernel_rfl) (by simp) ?_
          refine AllReadyH.cons (i := 16) (o := ⟨(some 61), _, _, _, _, _⟩) rfl (fun K hK => ?_) (AllReadyH.cons (i := 22) (o := ⟨(some 67), _, _, _, _, _⟩) rfl (fun K hK => ?_) AllReadyH.nil)
          · refine step_mac (by rfl) (.tmp 55) (.tmp 60) rfl (some ⟨w.heap.size, 0, none⟩) A15 key [a.data.toList, b.data.toList] 32 32 2 2 (by rfl) (by rfl) (byt_row (row_next hk9 hHeld).out) HKL.out (by omega) (by omega) ((f15).next g4) rfl (by omega) (hL2) (hla.below hla.2.2 (hB9 _ hHeld)) ?_
            intro W5 g5
            rw [hT2.out]
            refine hK.out _ _ (below_next hHeld hHeld.size g5) (fun hHeld => ?_)
            clear hK K
            try simp only [Act.put, List.setIfInBounds_toArray, List.set_cons_zero, List.set_cons_succ]
            refine wpAnyH_ready (rs := [22]) (by kernel_rfl) (by simp) ?_
            refine AllReadyH.cons (i := 22) (o := ⟨(some 67), _, _, _, _, _⟩) rfl (fun K hK => ?_) AllReadyH.nil
            refine step_one (by rfl) (.tmp 66) rfl A21 (a ++ b).data.toList (a ++ b).size c21 (by rfl) ((f21).next g5) (size_list (a ++ b)) l21 ?_
            intro A22 W6 f22 g6
            refine hK.out _ _ (below_next hHeld hHeld.size g6) (fun hHeld => ?_)
            clear hK K
            try simp only [Act.put, List.setIfInBounds_toArray, List.set_cons_zero, List.set_cons_succ]
            refine wpAnyH_ready (rs := [23]) (by kernel_rfl) (by simp) ?_
            refine AllReadyH.cons (i := 23) (o := ⟨(some 68), _, _, _, _, _⟩) rfl (fun K hK => ?_) AllReadyH.nil
            refine step_mac (by rfl) (.tmp 62) (.tmp 67) rfl (some ⟨w.heap.size, 0, none⟩) A22 key [(a ++ b).data.toList] 32 32 1 1 (by rfl) (by rfl) (byt_row (row_next hk9 hHeld).out) HKL.out (by omega) (by omega) (f22) rfl (by omega) (hL1) (hla.below hla.2.2 (hB9 _ hHeld)) ?_
            intro W7 g7
            rw [hT1.out]
            refine hK.out _ _ (below_next hHeld hHeld.size g7) (fun hHeld => ?_)
            clear hK K
            try simp only [Act.put, List.setIfInBounds_toArray, List.set_cons_zero, List.set_cons_succ]
            refine wpAnyH_take (i := 24) (oi := ⟨(some 69), _, _, _, _, _⟩) (v := ?vt14_12_15_21_16_22_23_24) rfl (by kernel_rfl) (by kernel_rfl) (by kernel_rfl) (fun _ _ _ h => h) (Or.inl ⟨by rfl, ?yt14_12_15_21_16_22_23_24⟩) hHeld ?_
            case yt14_12_15_21_16_22_23_24 => (intro W0 hSw; go_simp; try with_reducible rfl)
            try simp only [Act.put, List.setIfInBounds_toArray, List.set_cons_zero, List.set_cons_succ]
            refine wpAnyH_take (i := 25) (oi := ⟨(some 70), _, _, _, _, _⟩) (v := ?vt14_12_15_21_16_22_23_25) rfl (by kernel_rfl) (by kernel_rfl) (by kernel_rfl) (fun _ _ _ h => h) (Or.inl ⟨by rfl, ?yt14_12_15_21_16_22_23_25⟩) hHeld ?_
            case yt14_12_15_21_16_22_23_25 => (intro W0 hSw; go_simp; try with_reducible rfl)
            try simp only [Act.put, List.setIfInBounds_toArray, List.set_cons_zero, List.set_cons_succ]
            refine wpAnyH_take (i := 26) (oi := ⟨(some 6), _, _, _, _, _⟩) (v := ?vt14_12_15_21_16_22_23_26) rfl (by kernel_rfl) (by kernel_rfl) (by kernel_rfl) (fun _ _ _ h => h) (Or.inl ⟨by rfl, ?yt14_12_15_21_16_22_23_26⟩) hHeld ?_
            case yt14_12_15_21_16_22_23_26 => (intro W0 hSw; go_simp; try with_reducible rfl)
            try simp only [Act.put, List.setIfInBounds_toArray, List.set_cons_zero, List.set_cons_succ]
            refine wpAnyH_done (by kernel_rfl) ?_ _
            go_wp2_with fail
            go_ret
            exact ⟨rfl, hB9 _ hHeld⟩
          · refine step_one (by rfl) (.tmp 66) rfl A21 (a ++ b).data.toList (a ++ b).size c21 (by rfl) (f21) (size_list (a ++ b)) l21 ?_
            intro A22 W5 f22 g5
            refine hK.out _ _ (below_next hHeld hHeld.size g5) (fun hHeld => ?_)
            clear hK K
            try simp only [Act.put, List.setIfInBounds_toArray, List.set_cons_zero, List.set_cons_succ]
            refine wpAnyH_ready (rs := [16]) (by kernel_rfl) (by simp) ?_
            refine AllReadyH.cons (i := 16) (o := ⟨(some 61), _, _, _, _, _⟩) rfl (fun K hK => ?_) AllReadyH.nil
            refine step_mac (by rfl) (.tmp 55) (.tmp 60) rfl (some ⟨w.heap.size, 0, none⟩) A15 key [a.data.toList, b.data.toList] 32 32 2 2 (by rfl) (by rfl) (byt_row (row_next hk9 hHeld).out) HKL.out (by omega) (by omega) (((f15).next g4).next g5) rfl (by omega) (hL2) (hla.below hla.2.2 (hB9 _ hHeld)) ?_
            intro W6 g6
            rw [hT2.out]
            refine hK.out _ _ (below_next hHeld hHeld.size g6) (fun hHeld => ?_)
            clear hK K
            try simp only [Act.put, List.setIfInBounds_toArray, List.set_cons_zero, List.set_cons_succ]
            refine wpAnyH_ready (rs := [23]) (by kernel_rfl) (by simp) ?_
            refine AllReadyH.cons (i := 23) (o := ⟨(some 68), _, _, _, _, _⟩) rfl (fun K hK => ?_) AllReadyH.nil
            refine step_mac (by rfl) (.tmp 62) (.tmp 67) rfl (some ⟨w.heap.size, 0, none⟩) A22 key [(a ++ b).data.toList] 32 32 1 1 (by rfl) (by rfl) (byt_row (row_next hk9 hHeld).out) HKL.out (by omega) (by omega) ((f22).next g6) rfl (by omega) (hL1) (hla.below hla.2.2 (hB9 _ hHeld)) ?_
            intro W7 g7
            rw [hT1.out]
            refine hK.out _ _ (below_next hHeld hHeld.size g7) (fun hHeld => ?_)
            clear hK K
            try simp only [Act.put, List.setIfInBounds_toArray, List.set_cons_zero, List.set_cons_succ]
            refine wpAnyH_take (i := 24) (oi := ⟨(some 69), _, _, _, _, _⟩) (v := ?vt14_12_15_21_22_16_23_24) rfl (by kernel_rfl) (by kernel_rfl) (by kernel_rfl) (fun _ _ _ h => h) (Or.inl ⟨by rfl, ?yt14_12_15_21_22_16_23_24⟩) hHeld ?_
            case yt14_12_15_21_22_16_23_24 => (intro W0 hSw; go_simp; try with_reducible rfl)
            try simp only [Act.put, List.setIfInBounds_toArray, List.set_cons_zero, List.set_cons_succ]
            refine wpAnyH_take (i := 25) (oi := ⟨(some 70), _, _, _, _, _⟩) (v := ?vt14_12_15_21_22_16_23_25) rfl (by kernel_rfl) (by kernel_rfl) (by kernel_rfl) (fun _ _ _ h => h) (Or.inl ⟨by rfl, ?yt14_12_15_21_22_16_23_25⟩) hHeld ?_
            case yt14_12_15_21_22_16_23_25 => (intro W0 hSw; go_simp; try with_reducible rfl)
            try simp only [Act.put, List.setIfInBounds_toArray, List.set_cons_zero, List.set_cons_succ]
            refine wpAnyH_take (i := 26) (oi := ⟨(some 6), _, _, _, _, _⟩) (v := ?vt14_12_15_21_22_16_23_26) rfl (by kernel_rfl) (by kernel_rfl) (by kernel_rfl) (fun _ _ _ h => h) (Or.inl ⟨by rfl, ?yt14_12_15_21_22_16_23_26⟩) hHeld ?_
            case yt14_12_15_21_22_16_23_26 => (intro W0 hSw; go_simp; try with_reducible rfl)
            try simp only [Act.put, List.setIfInBounds_toArray, List.set_cons_zero, List.set_cons_succ]
            refine wpAnyH_done (by kernel_rfl) ?_ _
            go_wp2_with fail
            go_ret
            exact ⟨rfl, hB9 _ hHeld⟩
      · refine step_conv (by rfl) 9 24 5 (.tmp 65) rfl Tryd.underlying9 Tryd.underlying24 Tryd.underlying5 (a ++ b) (by rfl) ?_
        intro A21 c21 W3 f21 l21 g3
        refine hK.out _ _ (below_next hHeld hHeld.size g3) (fun hHeld => ?_)
        clear hK K
        try simp only [Act.put, List.setIfInBounds_toArray, List.set_cons_zero, List.set_cons_succ]
        refine wpAnyH_ready (rs := [15, 22]) (by kernel_rfl) (by simp) ?_
        refine AllReadyH.cons (i := 15) (o := ⟨(some 60), _, _, _, _, _⟩) rfl (fun K hK => ?_) (AllReadyH.cons (i := 22) (o := ⟨(some 67), _, _, _, _, _⟩) rfl (fun K hK => ?_) AllReadyH.nil)
        · refine step_two (by rfl) (.tmp 57) (.tmp 59) rfl A12 A14 a.data.toList b.data.toList a.size c12 b.size c14 (by rfl) (by rfl) ((f12).next g3) (size_list a) l12 (((f14).next g2).next g3) (size_list b) l14 ?_
          intro A15 W4 f15 g4
          refine hK.out _ _ (below_next hHeld hHeld.size g4) (fun hHeld => ?_)
          clear hK K
          try simp only [Act.put, List.setIfInBounds_toArray, List.set_cons_zero, List.set_cons_succ]
          refine wpAnyH_ready (rs := [16, 22]) (by kernel_rfl) (by simp) ?_
          refine AllReadyH.cons (i := 16) (o := ⟨(some 61), _, _, _, _, _⟩) rfl (fun K hK => ?_) (AllReadyH.cons (i := 22) (o := ⟨(some 67), _, _, _, _, _⟩) rfl (fun K hK => ?_) AllReadyH.nil)
          · refine step_mac (by rfl) (.tmp 55) (.tmp 60) rfl (some ⟨w.heap.size, 0, none⟩) A15 key [a.data.toList, b.data.toList] 32 32 2 2 (by rfl) (by rfl) (byt_row (row_next hk9 hHeld).out) HKL.out (by omega) (by omega) (f15) rfl (by omega) (hL2) (hla.below hla.2.2 (hB9 _ hHeld)) ?_
            intro W5 g5
            rw [hT2.out]
            refine hK.out _ _ (below_next hHeld hHeld.size g5) (fun hHeld => ?_)
            clear hK K
            try simp only [Act.put, List.setIfInBounds_toArray, List.set_cons_zero, List.set_cons_succ]
            refine wpAnyH_ready (rs := [22]) (by kernel_rfl) (by simp) ?_
            refine AllReadyH.cons (i := 22) (o := ⟨(some 67), _, _, _, _, _⟩) rfl (fun K hK => ?_) AllReadyH.nil
            refine step_one (by rfl) (.tmp 66) rfl A21 (a ++ b).data.toList (a ++ b).size c21 (by rfl) (((f21).next g4).next g5) (size_list (a ++ b)) l21 ?_
            intro A22 W6 f22 g6
            refine hK.out _ _ (below_next hHeld hHeld.size g6) (fun hHeld => ?_)
            clear hK K
            try simp only [Act.put, List.setIfInBounds_toArray, List.set_cons_zero, List.set_cons_succ]
            refine wpAnyH_ready (rs := [23]) (by kernel_rfl) (by simp) ?_
            refine AllReadyH.cons (i := 23) (o := ⟨(some 68), _, _, _, _, _⟩) rfl (fun K hK => ?_) AllReadyH.nil
            refine step_mac (by rfl) (.tmp 62) (.tmp 67) rfl (some ⟨w.heap.size, 0, none⟩) A22 key [(a ++ b).data.toList] 32 32 1 1 (by rfl) (by rfl) (byt_row (row_next hk9 hHeld).out) HKL.out (by omega) (by omega) (f22) rfl (by omega) (hL1) (hla.below hla.2.2 (hB9 _ hHeld)) ?_
            intro W7 g7
            rw [hT1.out]
            refine hK.out _ _ (below_next hHeld hHeld.size g7) (fun hHeld => ?_)
            clear hK K
            try simp only [Act.put, List.setIfInBounds_toArray, List.set_cons_zero, List.set_cons_succ]
            refine wpAnyH_take (i := 24) (oi := ⟨(some 69), _, _, _, _, _⟩) (v := ?vt14_12_21_15_16_22_23_24) rfl (by kernel_rfl) (by kernel_rfl) (by kernel_rfl) (fun _ _ _ h => h) (Or.inl ⟨by rfl, ?yt14_12_21_15_16_22_23_24⟩) hHeld ?_
            case yt14_12_21_15_16_22_23_24 => (intro W0 hSw; go_simp; try with_reducible rfl)
            try simp only [Act.put, List.setIfInBounds_toArray, List.set_cons_zero, List.set_cons_succ]
            refine wpAnyH_take (i := 25) (oi := ⟨(some 70), _, _, _, _, _⟩) (v := ?vt14_12_21_15_16_22_23_25) rfl (by kernel_rfl) (by kernel_rfl) (by kernel_rfl) (fun _ _ _ h => h) (Or.inl ⟨by rfl, ?yt14_12_21_15_16_22_23_25⟩) hHeld ?_
            case yt14_12_21_15_16_22_23_25 => (intro W0 hSw; go_simp; try with_reducible rfl)
            try simp only [Act.put, List.setIfInBounds_toArray, List.set_cons_zero, List.set_cons_succ]
            refine wpAnyH_take (i := 26) (oi := ⟨(some 6), _, _, _, _, _⟩) (v := ?vt14_12_21_15_16_22_23_26) rfl (by kernel_rfl) (by kernel_rfl) (by kernel_rfl) (fun _ _ _ h => h) (Or.inl ⟨by rfl, ?yt14_12_21_15_16_22_23_26⟩) hHeld ?_
            case yt14_12_21_15_16_22_23_26 => (intro W0 hSw; go_simp; try with_reducible rfl)
            try simp only [Act.put, List.setIfInBounds_toArray, List.set_cons_zero, List.set_cons_succ]
            refine wpAnyH_done (by kernel_rfl) ?_ _
            go_wp2_with fail
            go_ret
            exact ⟨rfl, hB9 _ hHeld⟩
          · refine step_one (by rfl) (.tmp 66) rfl A21 (a ++ b).data.toList (a ++ b).size c21 (by rfl) ((f21).next g4) (size_list (a ++ b)) l21 ?_
            intro A22 W5 f22 g5
            refine hK.out _ _ (below_next hHeld hHeld.size g5) (fun hHeld => ?_)
            clear hK K
            try simp only [Act.put, List.setIfInBounds_toArray, List.set_cons_zero, List.set_cons_succ]
            refine wpAnyH_ready (rs := [16]) (by kernel_rfl) (by simp) ?_
            refine AllReadyH.cons (i := 16) (o := ⟨(some 61), _, _, _, _, _⟩) rfl (fun K hK => ?_) AllReadyH.nil
            refine step_mac (by rfl) (.tmp 55) (.tmp 60) rfl (some ⟨w.heap.size, 0, none⟩) A15 key [a.data.toList, b.data.toList] 32 32 2 2 (by rfl) (by rfl) (byt_row (row_next hk9 hHeld).out) HKL.out (by omega) (by omega) ((f15).next g5) rfl (by omega) (hL2) (hla.below hla.2.2 (hB9 _ hHeld)) ?_
            intro W6 g6
            rw [hT2.out]
            refine hK.out _ _ (below_next hHeld hHeld.size g6) (fun hHeld => ?_)
            clear hK K
            try simp only [Act.put, List.setIfInBounds_toArray, List.set_cons_zero, List.set_cons_succ]
            refine wpAnyH_ready (rs := [23]) (by kernel_rfl) (by simp) ?_
            refine AllReadyH.cons (i := 23) (o := ⟨(some 68), _, _, _, _, _⟩) rfl (fun K hK => ?_) AllReadyH.nil
            refine step_mac (by rfl) (.tmp 62) (.tmp 67) rfl (some ⟨w.heap.size, 0, none⟩) A22 key [(a ++ b).data.toList] 32 32 1 1 (by rfl) (by rfl) (byt_row (row_next hk9 hHeld).out) HKL.out (by omega) (by omega) ((f22).next g6) rfl (by omega) (hL1) (hla.below hla.2.2 (hB9 _ hHeld)) ?_
            intro W7 g7
            rw [hT1.out]
            refine hK.out _ _ (below_next hHeld hHeld.size g7) (fun hHeld => ?_)
            clear hK K
            try simp only [Act.put, List.setIfInBounds_toArray, List.set_cons_zero, List.set_cons_succ]
            refine wpAnyH_take (i := 24) (oi := ⟨(some 69), _, _, _, _, _⟩) (v := ?vt14_12_21_15_22_16_23_24) rfl (by kernel_rfl) (by kernel_rfl) (by kernel_rfl) (fun _ _ _ h => h) (Or.inl ⟨by rfl, ?yt14_12_21_15_22_16_23_24⟩) hHeld ?_
            case yt14_12_21_15_22_16_23_24 => (intro W0 hSw; go_simp; try with_reducible rfl)
            try simp only [Act.put, List.setIfInBounds_toArray, List.set_cons_zero, List.set_cons_succ]
            refine wpAnyH_take (i := 25) (oi := ⟨(some 70), _, _, _, _, _⟩) (v := ?vt14_12_21_15_22_16_23_25) rfl (by kernel_rfl) (by kernel_rfl) (by kernel_rfl) (fun _ _ _ h => h) (Or.inl ⟨by rfl, ?yt14_12_21_15_22_16_23_25⟩) hHeld ?_
            case yt14_12_21_15_22_16_23_25 => (intro W0 hSw; go_simp; try with_reducible rfl)
            try simp only [Act.put, List.setIfInBounds_toArray, List.set_cons_zero, List.set_cons_succ]
            refine wpAnyH_take (i := 26) (oi := ⟨(some 6), _, _, _, _, _⟩) (v := ?vt14_12_21_15_22_16_23_26) rfl (by kernel_rfl) (by kernel_rfl) (by kernel_rfl) (fun _ _ _ h => h) (Or.inl ⟨by rfl, ?yt14_12_21_15_22_16_23_26⟩) hHeld ?_
            case yt14_12_21_15_22_16_23_26 => (intro W0 hSw; go_simp; try with_reducible rfl)
            try simp only [Act.put, List.setIfInBounds_toArray, List.set_cons_zero, List.set_cons_succ]
            refine wpAnyH_done (by kernel_rfl) ?_ _
            go_wp2_with fail
            go_ret
            exact ⟨rfl, hB9 _ hHeld⟩
        · refine step_one (by rfl) (.tmp 66) rfl A21 (a ++ b).data.toList (a ++ b).size c21 (by rfl) (f21) (size_list (a ++ b)) l21 ?_
          intro A22 W4 f22 g4
          refine hK.out _ _ (below_next hHeld hHeld.size g4) (fun hHeld => ?_)
          clear hK K
          try simp only [Act.put, List.setIfInBounds_toArray, List.set_cons_zero, List.set_cons_succ]
          refine wpAnyH_ready (rs := [15]) (by kernel_rfl) (by simp) ?_
          refine AllReadyH.cons (i := 15) (o := ⟨(some 60), _, _, _, _, _⟩) rfl (fun K hK => ?_) AllReadyH.nil
          refine step_two (by rfl) (.tmp 57) (.tmp 59) rfl A12 A14 a.data.toList b.data.toList a.size c12 b.size c14 (by rfl) (by rfl) (((f12).next g3).next g4) (size_list a) l12 ((((f14).next g2).next g3).next g4) (size_list b) l14 ?_
          intro A15 W5 f15 g5
          refine hK.out _ _ (below_next hHeld hHeld.size g5) (fun hHeld => ?_)
          clear hK K
          try simp only [Act.put, List.setIfInBounds_toArray, List.set_cons_zero, List.set_cons_succ]
          refine wpAnyH_ready (rs := [16]) (by kernel_rfl) (by simp) ?_
          refine AllReadyH.cons (i := 16) (o := ⟨(some 61), _, _, _, _, _⟩) rfl (fun K hK => ?_) AllReadyH.nil
          refine step_mac (by rfl) (.tmp 55) (.tmp 60) rfl (some ⟨w.heap.size, 0, none⟩) A15 key [a.data.toList, b.data.toList] 32 32 2 2 (by rfl) (by rfl) (byt_row (row_next hk9 hHeld).out) HKL.out (by omega) (by omega) (f15) rfl (by omega) (hL2) (hla.below hla.2.2 (hB9 _ hHeld)) ?_
          intro W6 g6
          rw [hT2.out]
          refine hK.out _ _ (below_next hHeld hHeld.size g6) (fun hHeld => ?_)
          clear hK K
          try simp only [Act.put, List.setIfInBounds_toArray, List.set_cons_zero, List.set_cons_succ]
          refine wpAnyH_ready (rs := [23]) (by kernel_rfl) (by simp) ?_
          refine AllReadyH.cons (i := 23) (o := ⟨(some 68), _, _, _, _, _⟩) rfl (fun K hK => ?_) AllReadyH.nil
          refine step_mac (by rfl) (.tmp 62) (.tmp 67) rfl (some ⟨w.heap.size, 0, none⟩) A22 key [(a ++ b).data.toList] 32 32 1 1 (by rfl) (by rfl) (byt_row (row_next hk9 hHeld).out) HKL.out (by omega) (by omega) (((f22).next g5).next g6) rfl (by omega) (hL1) (hla.below hla.2.2 (hB9 _ hHeld)) ?_
          intro W7 g7
          rw [hT1.out]
          refine hK.out _ _ (below_next hHeld hHeld.size g7) (fun hHeld => ?_)
          clear hK K
          try simp only [Act.put, List.setIfInBounds_toArray, List.set_cons_zero, List.set_cons_succ]
          refine wpAnyH_take (i := 24) (oi := ⟨(some 69), _, _, _, _, _⟩) (v := ?vt14_12_21_22_15_16_23_24) rfl (by kernel_rfl) (by kernel_rfl) (by kernel_rfl) (fun _ _ _ h => h) (Or.inl ⟨by rfl, ?yt14_12_21_22_15_16_23_24⟩) hHeld ?_
          case yt14_12_21_22_15_16_23_24 => (intro W0 hSw; go_simp; try with_reducible rfl)
          try simp only [Act.put, List.setIfInBounds_toArray, List.set_cons_zero, List.set_cons_succ]
          refine wpAnyH_take (i := 25) (oi := ⟨(some 70), _, _, _, _, _⟩) (v := ?vt14_12_21_22_15_16_23_25) rfl (by kernel_rfl) (by kernel_rfl) (by kernel_rfl) (fun _ _ _ h => h) (Or.inl ⟨by rfl, ?yt14_12_21_22_15_16_23_25⟩) hHeld ?_
          case yt14_12_21_22_15_16_23_25 => (intro W0 hSw; go_simp; try with_reducible rfl)
          try simp only [Act.put, List.setIfInBounds_toArray, List.set_cons_zero, List.set_cons_succ]
          refine wpAnyH_take (i := 26) (oi := ⟨(some 6), _, _, _, _, _⟩) (v := ?vt14_12_21_22_15_16_23_26) rfl (by kernel_rfl) (by kernel_rfl) (by kernel_rfl) (fun _ _ _ h => h) (Or.inl ⟨by rfl, ?yt14_12_21_22_15_16_23_26⟩) hHeld ?_
          case yt14_12_21_22_15_16_23_26 => (intro W0 hSw; go_simp; try with_reducible rfl)
          try simp only [Act.put, List.setIfInBounds_toArray, List.set_cons_zero, List.set_cons_succ]
          refine wpAnyH_done (by kernel_rfl) ?_ _
          go_wp2_with fail
          go_ret
          exact ⟨rfl, hB9 _ hHeld⟩
    · refine step_conv (by rfl) 9 24 5 (.tmp 65) rfl Tryd.underlying9 Tryd.underlying24 Tryd.underlying5 (a ++ b) (by rfl) ?_
      intro A21 c21 W2 f21 l21 g2
      refine hK.out _ _ (below_next hHeld hHeld.size g2) (fun hHeld => ?_)
      clear hK K
      try simp only [Act.put, List.setIfInBounds_toArray, List.set_cons_zero, List.set_cons_succ]
      refine wpAnyH_ready (rs := [12, 22]) (by kernel_rfl) (by simp) ?_
      refine AllReadyH.cons (i := 12) (o := ⟨(some 57), _, _, _, _, _⟩) rfl (fun K hK => ?_) (AllReadyH.cons (i := 22) (o := ⟨(some 67), _, _, _, _, _⟩) rfl (fun K hK => ?_) AllReadyH.nil)
      · refine step_conv (by rfl) 9 24 5 (.tmp 56) rfl Tryd.underlying9 Tryd.underlying24 Tryd.underlying5 a (by rfl) ?_
        intro A12 c12 W3 f12 l12 g3
        refine hK.out _ _ (below_next hHeld hHeld.size g3) (fun hHeld => ?_)
        clear hK K
        try simp only [Act.put, List.setIfInBounds_toArray, List.set_cons_zero, List.set_cons_succ]
        refine wpAnyH_ready (rs := [15, 22]) (by kernel_rfl) (by simp) ?_
        refine AllReadyH.cons (i := 15) (o := ⟨(some 60), _, _, _, _, _⟩) rfl (fun K hK => ?_) (AllReadyH.cons (i := 22) (o := ⟨(some 67), _, _, _, _, _⟩) rfl (fun K hK => ?_) AllReadyH.nil)
        · refine step_two (by rfl) (.tmp 57) (.tmp 59) rfl A12 A14 a.data.toList b.data.toList a.size c12 b.size c14 (by rfl) (by rfl) (f12) (size_list a) l12 (((f14).next g2).next g3) (size_list b) l14 ?_
          intro A15 W4 f15 g4
          refine hK.out _ _ (below_next hHeld hHeld.size g4) (fun hHeld => ?_)
          clear hK K
          try simp only [Act.put, List.setIfInBounds_toArray, List.set_cons_zero, List.set_cons_succ]
          refine wpAnyH_ready (rs := [16, 22]) (by kernel_rfl) (by simp) ?_
          refine AllReadyH.cons (i := 16) (o := ⟨(some 61), _, _, _, _, _⟩) rfl (fun K hK => ?_) (AllReadyH.cons (i := 22) (o := ⟨(some 67), _, _, _, _, _⟩) rfl (fun K hK => ?_) AllReadyH.nil)
          · refine step_mac (by rfl) (.tmp 55) (.tmp 60) rfl (some ⟨w.heap.size, 0, none⟩) A15 key [a.data.toList, b.data.toList] 32 32 2 2 (by rfl) (by rfl) (byt_row (row_next hk9 hHeld).out) HKL.out (by omega) (by omega) (f15) rfl (by omega) (hL2) (hla.below hla.2.2 (hB9 _ hHeld)) ?_
            intro W5 g5
            rw [hT2.out]
            refine hK.out _ _ (below_next hHeld hHeld.size g5) (fun hHeld => ?_)
            clear hK K
            try simp only [Act.put, List.setIfInBounds_toArray, List.set_cons_zero, List.set_cons_succ]
            refine wpAnyH_ready (rs := [22]) (by kernel_rfl) (by simp) ?_
            refine AllReadyH.cons (i := 22) (o := ⟨(some 67), _, _, _, _, _⟩) rfl (fun K hK => ?_) AllReadyH.nil
            refine step_one (by rfl) (.tmp 66) rfl A21 (a ++ b).data.toList (a ++ b).size c21 (by rfl) ((((f21).next g3).next g4).next g5) (size_list (a ++ b)) l21 ?_
            intro A22 W6 f22 g6
            refine hK.out _ _ (below_next hHeld hHeld.size g6) (fun hHeld => ?_)
            clear hK K
            try simp only [Act.put, List.setIfInBounds_toArray, List.set_cons_zero, List.set_cons_succ]
            refine wpAnyH_ready (rs := [23]) (by kernel_rfl) (by simp) ?_
            refine AllReadyH.cons (i := 23) (o := ⟨(some 68), _, _, _, _, _⟩) rfl (fun K hK => ?_) AllReadyH.nil
            refine step_mac (by rfl) (.tmp 62) (.tmp 67) rfl (some ⟨w.heap.size, 0, none⟩) A22 key [(a ++ b).data.toList] 32 32 1 1 (by rfl) (by rfl) (byt_row (row_next hk9 hHeld).out) HKL.out (by omega) (by omega) (f22) rfl (by omega) (hL1) (hla.below hla.2.2 (hB9 _ hHeld)) ?_
            intro W7 g7
            rw [hT1.out]
            refine hK.out _ _ (below_next hHeld hHeld.size g7) (fun hHeld => ?_)
            clear hK K
            try simp only [Act.put, List.setIfInBounds_toArray, List.set_cons_zero, List.set_cons_succ]
            refine wpAnyH_take (i := 24) (oi := ⟨(some 69), _, _, _, _, _⟩) (v := ?vt14_21_12_15_16_22_23_24) rfl (by kernel_rfl) (by kernel_rfl) (by kernel_rfl) (fun _ _ _ h => h) (Or.inl ⟨by rfl, ?yt14_21_12_15_16_22_23_24⟩) hHeld ?_
            case yt14_21_12_15_16_22_23_24 => (intro W0 hSw; go_simp; try with_reducible rfl)
            try simp only [Act.put, List.setIfInBounds_toArray, List.set_cons_zero, List.set_cons_succ]
            refine wpAnyH_take (i := 25) (oi := ⟨(some 70), _, _, _, _, _⟩) (v := ?vt14_21_12_15_16_22_23_25) rfl (by kernel_rfl) (by kernel_rfl) (by kernel_rfl) (fun _ _ _ h => h) (Or.inl ⟨by rfl, ?yt14_21_12_15_16_22_23_25⟩) hHeld ?_
            case yt14_21_12_15_16_22_23_25 => (intro W0 hSw; go_simp; try with_reducible rfl)
            try simp only [Act.put, List.setIfInBounds_toArray, List.set_cons_zero, List.set_cons_succ]
            refine wpAnyH_take (i := 26) (oi := ⟨(some 6), _, _, _, _, _⟩) (v := ?vt14_21_12_15_16_22_23_26) rfl (by kernel_rfl) (by kernel_rfl) (by kernel_rfl) (fun _ _ _ h => h) (Or.inl ⟨by rfl, ?yt14_21_12_15_16_22_23_26⟩) hHeld ?_
            case yt14_21_12_15_16_22_23_26 => (intro W0 hSw; go_simp; try with_reducible rfl)
            try simp only [Act.put, List.setIfInBounds_toArray, List.set_cons_zero, List.set_cons_succ]
            refine wpAnyH_done (by kernel_rfl) ?_ _
            go_wp2_with fail
            go_ret
            exact ⟨rfl, hB9 _ hHeld⟩
          · refine step_one (by rfl) (.tmp 66) rfl A21 (a ++ b).data.toList (a ++ b).size c21 (by rfl) (((f21).next g3).next g4) (size_list (a ++ b)) l21 ?_
            intro A22 W5 f22 g5
            refine hK.out _ _ (below_next hHeld hHeld.size g5) (fun hHeld => ?_)
            clear hK K
            try simp only [Act.put, List.setIfInBounds_toArray, List.set_cons_zero, List.set_cons_succ]
            refine wpAnyH_ready (rs := [16]) (by kernel_rfl) (by simp) ?_
            refine AllReadyH.cons (i := 16) (o := ⟨(some 61), _, _, _, _, _⟩) rfl (fun K hK => ?_) AllReadyH.nil
            refine step_mac (by rfl) (.tmp 55) (.tmp 60) rfl (some ⟨w.heap.size, 0, none⟩) A15 key [a.data.toList, b.data.toList] 32 32 2 2 (by rfl) (by rfl) (byt_row (row_next hk9 hHeld).out) HKL.out (by omega) (by omega) ((f15).next g5) rfl (by omega) (hL2) (hla.below hla.2.2 (hB9 _ hHeld)) ?_
            intro W6 g6
            rw [hT2.out]
            refine hK.out _ _ (below_next hHeld hHeld.size g6) (fun hHeld => ?_)
            clear hK K
            try simp only [Act.put, List.setIfInBounds_toArray, List.set_cons_zero, List.set_cons_succ]
            refine wpAnyH_ready (rs := [23]) (by kernel_rfl) (by simp) ?_
            refine AllReadyH.cons (i := 23) (o := ⟨(some 68), _, _, _, _, _⟩) rfl (fun K hK => ?_) AllReadyH.nil
            refine step_mac (by rfl) (.tmp 62) (.tmp 67) rfl (some ⟨w.heap.size, 0, none⟩) A22 key [(a ++ b).data.toList] 32 32 1 1 (by rfl) (by rfl) (byt_row (row_next hk9 hHeld).out) HKL.out (by omega) (by omega) ((f22).next g6) rfl (by omega) (hL1) (hla.below hla.2.2 (hB9 _ hHeld)) ?_
            intro W7 g7
            rw [hT1.out]
            refine hK.out _ _ (below_next hHeld hHeld.size g7) (fun hHeld => ?_)
            clear hK K
            try simp only [Act.put, List.setIfInBounds_toArray, List.set_cons_zero, List.set_cons_succ]
            refine wpAnyH_take (i := 24) (oi := ⟨(some 69), _, _, _, _, _⟩) (v := ?vt14_21_12_15_22_16_23_24) rfl (by kernel_rfl) (by kernel_rfl) (by kernel_rfl) (fun _ _ _ h => h) (Or.inl ⟨by rfl, ?yt14_21_12_15_22_16_23_24⟩) hHeld ?_
            case yt14_21_12_15_22_16_23_24 => (intro W0 hSw; go_simp; try with_reducible rfl)
            try simp only [Act.put, List.setIfInBounds_toArray, List.set_cons_zero, List.set_cons_succ]
            refine wpAnyH_take (i := 25) (oi := ⟨(some 70), _, _, _, _, _⟩) (v := ?vt14_21_12_15_22_16_23_25) rfl (by kernel_rfl) (by kernel_rfl) (by kernel_rfl) (fun _ _ _ h => h) (Or.inl ⟨by rfl, ?yt14_21_12_15_22_16_23_25⟩) hHeld ?_
            case yt14_21_12_15_22_16_23_25 => (intro W0 hSw; go_simp; try with_reducible rfl)
            try simp only [Act.put, List.setIfInBounds_toArray, List.set_cons_zero, List.set_cons_succ]
            refine wpAnyH_take (i := 26) (oi := ⟨(some 6), _, _, _, _, _⟩) (v := ?vt14_21_12_15_22_16_23_26) rfl (by kernel_rfl) (by kernel_rfl) (by kernel_rfl) (fun _ _ _ h => h) (Or.inl ⟨by rfl, ?yt14_21_12_15_22_16_23_26⟩) hHeld ?_
            case yt14_21_12_15_22_16_23_26 => (intro W0 hSw; go_simp; try with_reducible rfl)
            try simp only [Act.put, List.setIfInBounds_toArray, List.set_cons_zero, List.set_cons_succ]
            refine wpAnyH_done (by kernel_rfl) ?_ _
            go_wp2_with fail
            go_ret
            exact ⟨rfl, hB9 _ hHeld⟩
        · refine step_one (by rfl) (.tmp 66) rfl A21 (a ++ b).data.toList (a ++ b).size c21 (by rfl) ((f21).next g3) (size_list (a ++ b)) l21 ?_
          intro A22 W4 f22 g4
          refine hK.out _ _ (below_next hHeld hHeld.size g4) (fun hHeld => ?_)
          clear hK K
          try simp only [Act.put, List.setIfInBounds_toArray, List.set_cons_zero, List.set_cons_succ]
          refine wpAnyH_ready (rs := [15]) (by kernel_rfl) (by simp) ?_
          refine AllReadyH.cons (i := 15) (o := ⟨(some 60), _, _, _, _, _⟩) rfl (fun K hK => ?_) AllReadyH.nil
          refine step_two (by rfl) (.tmp 57) (.tmp 59) rfl A12 A14 a.data.toList b.data.toList a.size c12 b.size c14 (by rfl) (by rfl) ((f12).next g4) (size_list a) l12 ((((f14).next g2).next g3).next g4) (size_list b) l14 ?_
          intro A15 W5 f15 g5
          refine hK.out _ _ (below_next hHeld hHeld.size g5) (fun hHeld => ?_)
          clear hK K
          try simp only [Act.put, List.setIfInBounds_toArray, List.set_cons_zero, List.set_cons_succ]
          refine wpAnyH_ready (rs := [16]) (by kernel_rfl) (by simp) ?_
          refine AllReadyH.cons (i := 16) (o := ⟨(some 61), _, _, _, _, _⟩) rfl (fun K hK => ?_) AllReadyH.nil
          refine step_mac (by rfl) (.tmp 55) (.tmp 60) rfl (some ⟨w.heap.size, 0, none⟩) A15 key [a.data.toList, b.data.toList] 32 32 2 2 (by rfl) (by rfl) (byt_row (row_next hk9 hHeld).out) HKL.out (by omega) (by omega) (f15) rfl (by omega) (hL2) (hla.below hla.2.2 (hB9 _ hHeld)) ?_
          intro W6 g6
          rw [hT2.out]
          refine hK.out _ _ (below_next hHeld hHeld.size g6) (fun hHeld => ?_)
          clear hK K
          try simp only [Act.put, List.setIfInBounds_toArray, List.set_cons_zero, List.set_cons_succ]
          refine wpAnyH_ready (rs := [23]) (by kernel_rfl) (by simp) ?_
          refine AllReadyH.cons (i := 23) (o := ⟨(some 68), _, _, _, _, _⟩) rfl (fun K hK => ?_) AllReadyH.nil
          refine step_mac (by rfl) (.tmp 62) (.tmp 67) rfl (some ⟨w.heap.size, 0, none⟩) A22 key [(a ++ b).data.toList] 32 32 1 1 (by rfl) (by rfl) (byt_row (row_next hk9 hHeld).out) HKL.out (by omega) (by omega) (((f22).next g5).next g6) rfl (by omega) (hL1) (hla.below hla.2.2 (hB9 _ hHeld)) ?_
          intro W7 g7
          rw [hT1.out]
          refine hK.out _ _ (below_next hHeld hHeld.size g7) (fun hHeld => ?_)
          clear hK K
          try simp only [Act.put, List.setIfInBounds_toArray, List.set_cons_zero, List.set_cons_succ]
          refine wpAnyH_take (i := 24) (oi := ⟨(some 69), _, _, _, _, _⟩) (v := ?vt14_21_12_22_15_16_23_24) rfl (by kernel_rfl) (by kernel_rfl) (by kernel_rfl) (fun _ _ _ h => h) (Or.inl ⟨by rfl, ?yt14_21_12_22_15_16_23_24⟩) hHeld ?_
          case yt14_21_12_22_15_16_23_24 => (intro W0 hSw; go_simp; try with_reducible rfl)
          try simp only [Act.put, List.setIfInBounds_toArray, List.set_cons_zero, List.set_cons_succ]
          refine wpAnyH_take (i := 25) (oi := ⟨(some 70), _, _, _, _, _⟩) (v := ?vt14_21_12_22_15_16_23_25) rfl (by kernel_rfl) (by kernel_rfl) (by kernel_rfl) (fun _ _ _ h => h) (Or.inl ⟨by rfl, ?yt14_21_12_22_15_16_23_25⟩) hHeld ?_
          case yt14_21_12_22_15_16_23_25 => (intro W0 hSw; go_simp; try with_reducible rfl)
          try simp only [Act.put, List.setIfInBounds_toArray, List.set_cons_zero, List.set_cons_succ]
          refine wpAnyH_take (i := 26) (oi := ⟨(some 6), _, _, _, _, _⟩) (v := ?vt14_21_12_22_15_16_23_26) rfl (by kernel_rfl) (by kernel_rfl) (by kernel_rfl) (fun _ _ _ h => h) (Or.inl ⟨by rfl, ?yt14_21_12_22_15_16_23_26⟩) hHeld ?_
          case yt14_21_12_22_15_16_23_26 => (intro W0 hSw; go_simp; try with_reducible rfl)
          try simp only [Act.put, List.setIfInBounds_toArray, List.set_cons_zero, List.set_cons_succ]
          refine wpAnyH_done (by kernel_rfl) ?_ _
          go_wp2_with fail
          go_ret
          exact ⟨rfl, hB9 _ hHeld⟩
      · refine step_one (by rfl) (.tmp 66) rfl A21 (a ++ b).data.toList (a ++ b).size c21 (by rfl) (f21) (size_list (a ++ b)) l21 ?_
        intro A22 W3 f22 g3
        refine hK.out _ _ (below_next hHeld hHeld.size g3) (fun hHeld => ?_)
        clear hK K
        try simp only [Act.put, List.setIfInBounds_toArray, List.set_cons_zero, List.set_cons_succ]
        refine wpAnyH_ready (rs := [12]) (by kernel_rfl) (by simp) ?_
        refine AllReadyH.cons (i := 12) (o := ⟨(some 57), _, _, _, _, _⟩) rfl (fun K hK => ?_) AllReadyH.nil
        refine step_conv (by rfl) 9 24 5 (.tmp 56) rfl Tryd.underlying9 Tryd.underlying24 Tryd.underlying5 a (by rfl) ?_
        intro A12 c12 W4 f12 l12 g4
        refine hK.out _ _ (below_next hHeld hHeld.size g4) (fun hHeld => ?_)
        clear hK K
        try simp only [Act.put, List.setIfInBounds_toArray, List.set_cons_zero, List.set_cons_succ]
        refine wpAnyH_ready (rs := [15]) (by kernel_rfl) (by simp) ?_
        refine AllReadyH.cons (i := 15) (o := ⟨(some 60), _, _, _, _, _⟩) rfl (fun K hK => ?_) AllReadyH.nil
        refine step_two (by rfl) (.tmp 57) (.tmp 59) rfl A12 A14 a.data.toList b.data.toList a.size c12 b.size c14 (by rfl) (by rfl) (f12) (size_list a) l12 ((((f14).next g2).next g3).next g4) (size_list b) l14 ?_
        intro A15 W5 f15 g5
        refine hK.out _ _ (below_next hHeld hHeld.size g5) (fun hHeld => ?_)
        clear hK K
        try simp only [Act.put, List.setIfInBounds_toArray, List.set_cons_zero, List.set_cons_succ]
        refine wpAnyH_ready (rs := [16]) (by kernel_rfl) (by simp) ?_
        refine AllReadyH.cons (i := 16) (o := ⟨(some 61), _, _, _, _, _⟩) rfl (fun K hK => ?_) AllReadyH.nil
        refine step_mac (by rfl) (.tmp 55) (.tmp 60) rfl (some ⟨w.heap.size, 0, none⟩) A15 key [a.data.toList, b.data.toList] 32 32 2 2 (by rfl) (by rfl) (byt_row (row_next hk9 hHeld).out) HKL.out (by omega) (by omega) (f15) rfl (by omega) (hL2) (hla.below hla.2.2 (hB9 _ hHeld)) ?_
        intro W6 g6
        rw [hT2.out]
        refine hK.out _ _ (below_next hHeld hHeld.size g6) (fun hHeld => ?_)
        clear hK K
        try simp only [Act.put, List.setIfInBounds_toArray, List.set_cons_zero, List.set_cons_succ]
        refine wpAnyH_ready (rs := [23]) (by kernel_rfl) (by simp) ?_
        refine AllReadyH.cons (i := 23) (o := ⟨(some 68), _, _, _, _, _⟩) rfl (fun K hK => ?_) AllReadyH.nil
        refine step_mac (by rfl) (.tmp 62) (.tmp 67) rfl (some ⟨w.heap.size, 0, none⟩) A22 key [(a ++ b).data.toList] 32 32 1 1 (by rfl) (by rfl) (byt_row (row_next hk9 hHeld).out) HKL.out (by omega) (by omega) ((((f22).next g4).next g5).next g6) rfl (by omega) (hL1) (hla.below hla.2.2 (hB9 _ hHeld)) ?_
        intro W7 g7
        rw [hT1.out]
        refine hK.out _ _ (below_next hHeld hHeld.size g7) (fun hHeld => ?_)
        clear hK K
        try simp only [Act.put, List.setIfInBounds_toArray, List.set_cons_zero, List.set_cons_succ]
        refine wpAnyH_take (i := 24) (oi := ⟨(some 69), _, _, _, _, _⟩) (v := ?vt14_21_22_12_15_16_23_24) rfl (by kernel_rfl) (by kernel_rfl) (by kernel_rfl) (fun _ _ _ h => h) (Or.inl ⟨by rfl, ?yt14_21_22_12_15_16_23_24⟩) hHeld ?_
        case yt14_21_22_12_15_16_23_24 => (intro W0 hSw; go_simp; try with_reducible rfl)
        try simp only [Act.put, List.setIfInBounds_toArray, List.set_cons_zero, List.set_cons_succ]
        refine wpAnyH_take (i := 25) (oi := ⟨(some 70), _, _, _, _, _⟩) (v := ?vt14_21_22_12_15_16_23_25) rfl (by kernel_rfl) (by kernel_rfl) (by kernel_rfl) (fun _ _ _ h => h) (Or.inl ⟨by rfl, ?yt14_21_22_12_15_16_23_25⟩) hHeld ?_
        case yt14_21_22_12_15_16_23_25 => (intro W0 hSw; go_simp; try with_reducible rfl)
        try simp only [Act.put, List.setIfInBounds_toArray, List.set_cons_zero, List.set_cons_succ]
        refine wpAnyH_take (i := 26) (oi := ⟨(some 6), _, _, _, _, _⟩) (v := ?vt14_21_22_12_15_16_23_26) rfl (by kernel_rfl) (by kernel_rfl) (by kernel_rfl) (fun _ _ _ h => h) (Or.inl ⟨by rfl, ?yt14_21_22_12_15_16_23_26⟩) hHeld ?_
        case yt14_21_22_12_15_16_23_26 => (intro W0 hSw; go_simp; try with_reducible rfl)
        try simp only [Act.put, List.setIfInBounds_toArray, List.set_cons_zero, List.set_cons_succ]
        refine wpAnyH_done (by kernel_rfl) ?_ _
        go_wp2_with fail
        go_ret
        exact ⟨rfl, hB9 _ hHeld⟩
  · refine step_conv (by rfl) 9 24 5 (.tmp 65) rfl Tryd.underlying9 Tryd.underlying24 Tryd.underlying5 (a ++ b) (by rfl) ?_
    intro A21 c21 W1 f21 l21 g1
    refine hK.out _ _ (below_next hHeld hHeld.size g1) (fun hHeld => ?_)
    clear hK K
    try simp only [Act.put, List.setIfInBounds_toArray, List.set_cons_zero, List.set_cons_succ]
    refine wpAnyH_ready (rs := [12, 14, 22]) (by kernel_rfl) (by simp) ?_
    refine AllReadyH.cons (i := 12) (o := ⟨(some 57), _, _, _, _, _⟩) rfl (fun K hK => ?_) (AllReadyH.cons (i := 14) (o := ⟨(some 59), _, _, _, _, _⟩) rfl (fun K hK => ?_) (AllReadyH.cons (i := 22) (o := ⟨(some 67), _, _, _, _, _⟩) rfl (fun K hK => ?_) AllReadyH.nil))
    · refine step_conv (by rfl) 9 24 5 (.tmp 56) rfl Tryd.underlying9 Tryd.underlying24 Tryd.underlying5 a (by rfl) ?_
      intro A12 c12 W2 f12 l12 g2
      refine hK.out _ _ (below_next hHeld hHeld.size g2) (fun hHeld => ?_)
      clear hK K
      try simp only [Act.put, List.setIfInBounds_toArray, List.set_cons_zero, List.set_cons_succ]
      refine wpAnyH_ready (rs := [14, 22]) (by kernel_rfl) (by simp) ?_
      refine AllReadyH.cons (i := 14) (o := ⟨(some 59), _, _, _, _, _⟩) rfl (fun K hK => ?_) (AllReadyH.cons (i := 22) (o := ⟨(some 67), _, _, _, _, _⟩) rfl (fun K hK => ?_) AllReadyH.nil)
      · refine step_conv (by rfl) 9 24 5 (.tmp 58) rfl Tryd.underlying9 Tryd.underlying24 Tryd.underlying5 b (by rfl) ?_
        intro A14 c14 W3 f14 l14 g3
        refine hK.out _ _ (below_next hHeld hHeld.size g3) (fun hHeld => ?_)
        clear hK K
        try simp only [Act.put, List.setIfInBounds_toArray, List.set_cons_zero, List.set_cons_succ]
        refine wpAnyH_ready (rs := [15, 22]) (by kernel_rfl) (by simp) ?_
        refine AllReadyH.cons (i := 15) (o := ⟨(some 60), _, _, _, _, _⟩) rfl (fun K hK => ?_) (AllReadyH.cons (i := 22) (o := ⟨(some 67), _, _, _, _, _⟩) rfl (fun K hK => ?_) AllReadyH.nil)
        · refine step_two (by rfl) (.tmp 57) (.tmp 59) rfl A12 A14 a.data.toList b.data.toList a.size c12 b.size c14 (by rfl) (by rfl) ((f12).next g3) (size_list a) l12 (f14) (size_list b) l14 ?_
          intro A15 W4 f15 g4
          refine hK.out _ _ (below_next hHeld hHeld.size g4) (fun hHeld => ?_)
          clear hK K
          try simp only [Act.put, List.setIfInBounds_toArray, List.set_cons_zero, List.set_cons_succ]
          refine wpAnyH_ready (rs := [16, 22]) (by kernel_rfl) (by simp) ?_
          refine AllReadyH.cons (i := 16) (o := ⟨(some 61), _, _, _, _, _⟩) rfl (fun K hK => ?_) (AllReadyH.cons (i := 22) (o := ⟨(some 67), _, _, _, _, _⟩) rfl (fun K hK => ?_) AllReadyH.nil)
          · refine step_mac (by rfl) (.tmp 55) (.tmp 60) rfl (some ⟨w.heap.size, 0, none⟩) A15 key [a.data.toList, b.data.toList] 32 32 2 2 (by rfl) (by rfl) (byt_row (row_next hk9 hHeld).out) HKL.out (by omega) (by omega) (f15) rfl (by omega) (hL2) (hla.below hla.2.2 (hB9 _ hHeld)) ?_
            intro W5 g5
            rw [hT2.out]
            refine hK.out _ _ (below_next hHeld hHeld.size g5) (fun hHeld => ?_)
            clear hK K
            try simp only [Act.put, List.setIfInBounds_toArray, List.set_cons_zero, List.set_cons_succ]
            refine wpAnyH_ready (rs := [22]) (by kernel_rfl) (by simp) ?_
            refine AllReadyH.cons (i := 22) (o := ⟨(some 67), _, _, _, _, _⟩) rfl (fun K hK => ?_) AllReadyH.nil
            refine step_one (by rfl) (.tmp 66) rfl A21 (a ++ b).data.toList (a ++ b).size c21 (by rfl) (((((f21).next g2).next g3).next g4).next g5) (size_list (a ++ b)) l21 ?_
            intro A22 W6 f22 g6
            refine hK.out _ _ (below_next hHeld hHeld.size g6) (fun hHeld => ?_)
            clear hK K
            try simp only [Act.put, List.setIfInBounds_toArray, List.set_cons_zero, List.set_cons_succ]
            refine wpAnyH_ready (rs := [23]) (by kernel_rfl) (by simp) ?_
            refine AllReadyH.cons (i := 23) (o := ⟨(some 68), _, _, _, _, _⟩) rfl (fun K hK => ?_) AllReadyH.nil
            refine step_mac (by rfl) (.tmp 62) (.tmp 67) rfl (some ⟨w.heap.size, 0, none⟩) A22 key [(a ++ b).data.toList] 32 32 1 1 (by rfl) (by rfl) (byt_row (row_next hk9 hHeld).out) HKL.out (by omega) (by omega) (f22) rfl (by omega) (hL1) (hla.below hla.2.2 (hB9 _ hHeld)) ?_
            intro W7 g7
            rw [hT1.out]
            refine hK.out _ _ (below_next hHeld hHeld.size g7) (fun hHeld => ?_)
            clear hK K
            try simp only [Act.put, List.setIfInBounds_toArray, List.set_cons_zero, List.set_cons_succ]
            refine wpAnyH_take (i := 24) (oi := ⟨(some 69), _, _, _, _, _⟩) (v := ?vt21_12_14_15_16_22_23_24) rfl (by kernel_rfl) (by kernel_rfl) (by kernel_rfl) (fun _ _ _ h => h) (Or.inl ⟨by rfl, ?yt21_12_14_15_16_22_23_24⟩) hHeld ?_
            case yt21_12_14_15_16_22_23_24 => (intro W0 hSw; go_simp; try with_reducible rfl)
            try simp only [Act.put, List.setIfInBounds_toArray, List.set_cons_zero, List.set_cons_succ]
            refine wpAnyH_take (i := 25) (oi := ⟨(some 70), _, _, _, _, _⟩) (v := ?vt21_12_14_15_16_22_23_25) rfl (by kernel_rfl) (by kernel_rfl) (by kernel_rfl) (fun _ _ _ h => h) (Or.inl ⟨by rfl, ?yt21_12_14_15_16_22_23_25⟩) hHeld ?_
            case yt21_12_14_15_16_22_23_25 => (intro W0 hSw; go_simp; try with_reducible rfl)
            try simp only [Act.put, List.setIfInBounds_toArray, List.set_cons_zero, List.set_cons_succ]
            refine wpAnyH_take (i := 26) (oi := ⟨(some 6), _, _, _, _, _⟩) (v := ?vt21_12_14_15_16_22_23_26) rfl (by kernel_rfl) (by kernel_rfl) (by kernel_rfl) (fun _ _ _ h => h) (Or.inl ⟨by rfl, ?yt21_12_14_15_16_22_23_26⟩) hHeld ?_
            case yt21_12_14_15_16_22_23_26 => (intro W0 hSw; go_simp; try with_reducible rfl)
            try simp only [Act.put, List.setIfInBounds_toArray, List.set_cons_zero, List.set_cons_succ]
            refine wpAnyH_done (by kernel_rfl) ?_ _
            go_wp2_with fail
            go_ret
            exact ⟨rfl, hB9 _ hHeld⟩
          · refine step_one (by rfl) (.tmp 66) rfl A21 (a ++ b).data.toList (a ++ b).size c21 (by rfl) ((((f21).next g2).next g3).next g4) (size_list (a ++ b)) l21 ?_
            intro A22 W5 f22 g5
            refine hK.out _ _ (below_next hHeld hHeld.size g5) (fun hHeld => ?_)
            clear hK K
            try simp only [Act.put, List.setIfInBounds_toArray, List.set_cons_zero, List.set_cons_succ]
            refine wpAnyH_ready (rs := [16]) (by kernel_rfl) (by simp) ?_
            refine AllReadyH.cons (i := 16) (o := ⟨(some 61), _, _, _, _, _⟩) rfl (fun K hK => ?_) AllReadyH.nil
            refine step_mac (by rfl) (.tmp 55) (.tmp 60) rfl (some ⟨w.heap.size, 0, none⟩) A15 key [a.data.toList, b.data.toList] 32 32 2 2 (by rfl) (by rfl) (byt_row (row_next hk9 hHeld).out) HKL.out (by omega) (by omega) ((f15).next g5) rfl (by omega) (hL2) (hla.below hla.2.2 (hB9 _ hHeld)) ?_
            intro W6 g6
            rw [hT2.out]
            refine hK.out _ _ (below_next hHeld hHeld.size g6) (fun hHeld => ?_)
            clear hK K
            try simp only [Act.put, List.setIfInBounds_toArray, List.set_cons_zero, List.set_cons_succ]
            refine wpAnyH_ready (rs := [23]) (by kernel_rfl) (by simp) ?_
            refine AllReadyH.cons (i := 23) (o := ⟨(some 68), _, _, _, _, _⟩) rfl (fun K hK => ?_) AllReadyH.nil
            refine step_mac (by rfl) (.tmp 62) (.tmp 67) rfl (some ⟨w.heap.size, 0, none⟩) A22 key [(a ++ b).data.toList] 32 32 1 1 (by rfl) (by rfl) (byt_row (row_next hk9 hHeld).out) HKL.out (by omega) (by omega) ((f22).next g6) rfl (by omega) (hL1) (hla.below hla.2.2 (hB9 _ hHeld)) ?_
            intro W7 g7
            rw [hT1.out]
            refine hK.out _ _ (below_next hHeld hHeld.size g7) (fun hHeld => ?_)
            clear hK K
            try simp only [Act.put, List.setIfInBounds_toArray, List.set_cons_zero, List.set_cons_succ]
            refine wpAnyH_take (i := 24) (oi := ⟨(some 69), _, _, _, _, _⟩) (v := ?vt21_12_14_15_22_16_23_24) rfl (by kernel_rfl) (by kernel_rfl) (by kernel_rfl) (fun _ _ _ h => h) (Or.inl ⟨by rfl, ?yt21_12_14_15_22_16_23_24⟩) hHeld ?_
            case yt21_12_14_15_22_16_23_24 => (intro W0 hSw; go_simp; try with_reducible rfl)
            try simp only [Act.put, List.setIfInBounds_toArray, List.set_cons_zero, List.set_cons_succ]
            refine wpAnyH_take (i := 25) (oi := ⟨(some 70), _, _, _, _, _⟩) (v := ?vt21_12_14_15_22_16_23_25) rfl (by kernel_rfl) (by kernel_rfl) (by kernel_rfl) (fun _ _ _ h => h) (Or.inl ⟨by rfl, ?yt21_12_14_15_22_16_23_25⟩) hHeld ?_
            case yt21_12_14_15_22_16_23_25 => (intro W0 hSw; go_simp; try with_reducible rfl)
            try simp only [Act.put, List.setIfInBounds_toArray, List.set_cons_zero, List.set_cons_succ]
            refine wpAnyH_take (i := 26) (oi := ⟨(some 6), _, _, _, _, _⟩) (v := ?vt21_12_14_15_22_16_23_26) rfl (by kernel_rfl) (by kernel_rfl) (by kernel_rfl) (fun _ _ _ h => h) (Or.inl ⟨by rfl, ?yt21_12_14_15_22_16_23_26⟩) hHeld ?_
            case yt21_12_14_15_22_16_23_26 => (intro W0 hSw; go_simp; try with_reducible rfl)
            try simp only [Act.put, List.setIfInBounds_toArray, List.set_cons_zero, List.set_cons_succ]
            refine wpAnyH_done (by kernel_rfl) ?_ _
            go_wp2_with fail
            go_ret
            exact ⟨rfl, hB9 _ hHeld⟩
        · refine step_one (by rfl) (.tmp 66) rfl A21 (a ++ b).data.toList (a ++ b).size c21 (by rfl) (((f21).next g2).next g3) (size_list (a ++ b)) l21 ?_
          intro A22 W4 f22 g4
          refine hK.out _ _ (below_next hHeld hHeld.size g4) (fun hHeld => ?_)
          clear hK K
          try simp only [Act.put, List.setIfInBounds_toArray, List.set_cons_zero, List.set_cons_succ]
          refine wpAnyH_ready (rs := [15]) (by kernel_rfl) (by simp) ?_
          refine AllReadyH.cons (i := 15) (o := ⟨(some 60), _, _, _, _, _⟩) rfl (fun K hK => ?_) AllReadyH.nil
          refine step_two (by rfl) (.tmp 57) (.tmp 59) rfl A12 A14 a.data.toList b.data.toList a.size c12 b.size c14 (by rfl) (by rfl) (((f12).next g3).next g4) (size_list a) l12 ((f14).next g4) (size_list b) l14 ?_
          intro A15 W5 f15 g5
          refine hK.out _ _ (below_next hHeld hHeld.size g5) (fun hHeld => ?_)
          clear hK K
          try simp only [Act.put, List.setIfInBounds_toArray, List.set_cons_zero, List.set_cons_succ]
          refine wpAnyH_ready (rs := [16]) (by kernel_rfl) (by simp) ?_
          refine AllReadyH.cons (i := 16) (o := ⟨(some 61), _, _, _, _, _⟩) rfl (fun K hK => ?_) AllReadyH.nil
          refine step_mac (by rfl) (.tmp 55) (.tmp 60) rfl (some ⟨w.heap.size, 0, none⟩) A15 key [a.data.toList, b.data.toList] 32 32 2 2 (by rfl) (by rfl) (byt_row (row_next hk9 hHeld).out) HKL.out (by omega) (by omega) (f15) rfl (by omega) (hL2) (hla.below hla.2.2 (hB9 _ hHeld)) ?_
          intro W6 g6
          rw [hT2.out]
          refine hK.out _ _ (below_next hHeld hHeld.size g6) (fun hHeld => ?_)
          clear hK K
          try simp only [Act.put, List.setIfInBounds_toArray, List.set_cons_zero, List.set_cons_succ]
          refine wpAnyH_ready (rs := [23]) (by kernel_rfl) (by simp) ?_
          refine AllReadyH.cons (i := 23) (o := ⟨(some 68), _, _, _, _, _⟩) rfl (fun K hK => ?_) AllReadyH.nil
          refine step_mac (by rfl) (.tmp 62) (.tmp 67) rfl (some ⟨w.heap.size, 0, none⟩) A22 key [(a ++ b).data.toList] 32 32 1 1 (by rfl) (by rfl) (byt_row (row_next hk9 hHeld).out) HKL.out (by omega) (by omega) (((f22).next g5).next g6) rfl (by omega) (hL1) (hla.below hla.2.2 (hB9 _ hHeld)) ?_
          intro W7 g7
          rw [hT1.out]
          refine hK.out _ _ (below_next hHeld hHeld.size g7) (fun hHeld => ?_)
          clear hK K
          try simp only [Act.put, List.setIfInBounds_toArray, List.set_cons_zero, List.set_cons_succ]
          refine wpAnyH_take (i := 24) (oi := ⟨(some 69), _, _, _, _, _⟩) (v := ?vt21_12_14_22_15_16_23_24) rfl (by kernel_rfl) (by kernel_rfl) (by kernel_rfl) (fun _ _ _ h => h) (Or.inl ⟨by rfl, ?yt21_12_14_22_15_16_23_24⟩) hHeld ?_
          case yt21_12_14_22_15_16_23_24 => (intro W0 hSw; go_simp; try with_reducible rfl)
          try simp only [Act.put, List.setIfInBounds_toArray, List.set_cons_zero, List.set_cons_succ]
          refine wpAnyH_take (i := 25) (oi := ⟨(some 70), _, _, _, _, _⟩) (v := ?vt21_12_14_22_15_16_23_25) rfl (by kernel_rfl) (by kernel_rfl) (by kernel_rfl) (fun _ _ _ h => h) (Or.inl ⟨by rfl, ?yt21_12_14_22_15_16_23_25⟩) hHeld ?_
          case yt21_12_14_22_15_16_23_25 => (intro W0 hSw; go_simp; try with_reducible rfl)
          try simp only [Act.put, List.setIfInBounds_toArray, List.set_cons_zero, List.set_cons_succ]
          refine wpAnyH_take (i := 26) (oi := ⟨(some 6), _, _, _, _, _⟩) (v := ?vt21_12_14_22_15_16_23_26) rfl (by kernel_rfl) (by kernel_rfl) (by kernel_rfl) (fun _ _ _ h => h) (Or.inl ⟨by rfl, ?yt21_12_14_22_15_16_23_26⟩) hHeld ?_
          case yt21_12_14_22_15_16_23_26 => (intro W0 hSw; go_simp; try with_reducible rfl)
          try simp only [Act.put, List.setIfInBounds_toArray, List.set_cons_zero, List.set_cons_succ]
          refine wpAnyH_done (by kernel_rfl) ?_ _
          go_wp2_with fail
          go_ret
          exact ⟨rfl, hB9 _ hHeld⟩
      · refine step_one (by rfl) (.tmp 66) rfl A21 (a ++ b).data.toList (a ++ b).size c21 (by rfl) ((f21).next g2) (size_list (a ++ b)) l21 ?_
        intro A22 W3 f22 g3
        refine hK.out _ _ (below_next hHeld hHeld.size g3) (fun hHeld => ?_)
        clear hK K
        try simp only [Act.put, List.setIfInBounds_toArray, List.set_cons_zero, List.set_cons_succ]
        refine wpAnyH_ready (rs := [14]) (by kernel_rfl) (by simp) ?_
        refine AllReadyH.cons (i := 14) (o := ⟨(some 59), _, _, _, _, _⟩) rfl (fun K hK => ?_) AllReadyH.nil
        refine step_conv (by rfl) 9 24 5 (.tmp 58) rfl Tryd.underlying9 Tryd.underlying24 Tryd.underlying5 b (by rfl) ?_
        intro A14 c14 W4 f14 l14 g4
        refine hK.out _ _ (below_next hHeld hHeld.size g4) (fun hHeld => ?_)
        clear hK K
        try simp only [Act.put, List.setIfInBounds_toArray, List.set_cons_zero, List.set_cons_succ]
        refine wpAnyH_ready (rs := [15]) (by kernel_rfl) (by simp) ?_
        refine AllReadyH.cons (i := 15) (o := ⟨(some 60), _, _, _, _, _⟩) rfl (fun K hK => ?_) AllReadyH.nil
        refine step_two (by rfl) (.tmp 57) (.tmp 59) rfl A12 A14 a.data.toList b.data.toList a.size c12 b.size c14 (by rfl) (by rfl) (((f12).next g3).next g4) (size_list a) l12 (f14) (size_list b) l14 ?_
        intro A15 W5 f15 g5
        refine hK.out _ _ (below_next hHeld hHeld.size g5) (fun hHeld => ?_)
        clear hK K
        try simp only [Act.put, List.setIfInBounds_toArray, List.set_cons_zero, List.set_cons_succ]
        refine wpAnyH_ready (rs := [16]) (by kernel_rfl) (by simp) ?_
        refine AllReadyH.cons (i := 16) (o := ⟨(some 61), _, _, _, _, _⟩) rfl (fun K hK => ?_) AllReadyH.nil
        refine step_mac (by rfl) (.tmp 55) (.tmp 60) rfl (some ⟨w.heap.size, 0, none⟩) A15 key [a.data.toList, b.data.toList] 32 32 2 2 (by rfl) (by rfl) (byt_row (row_next hk9 hHeld).out) HKL.out (by omega) (by omega) (f15) rfl (by omega) (hL2) (hla.below hla.2.2 (hB9 _ hHeld)) ?_
        intro W6 g6
        rw [hT2.out]
        refine hK.out _ _ (below_next hHeld hHeld.size g6) (fun hHeld => ?_)
        clear hK K
        try simp only [Act.put, List.setIfInBounds_toArray, List.set_cons_zero, List.set_cons_succ]
        refine wpAnyH_ready (rs := [23]) (by kernel_rfl) (by simp) ?_
        refine AllReadyH.cons (i := 23) (o := ⟨(some 68), _, _, _, _, _⟩) rfl (fun K hK => ?_) AllReadyH.nil
        refine step_mac (by rfl) (.tmp 62) (.tmp 67) rfl (some ⟨w.heap.size, 0, none⟩) A22 key [(a ++ b).data.toList] 32 32 1 1 (by rfl) (by rfl) (byt_row (row_next hk9 hHeld).out) HKL.out (by omega) (by omega) ((((f22).next g4).next g5).next g6) rfl (by omega) (hL1) (hla.below hla.2.2 (hB9 _ hHeld)) ?_
        intro W7 g7
        rw [hT1.out]
        refine hK.out _ _ (below_next hHeld hHeld.size g7) (fun hHeld => ?_)
        clear hK K
        try simp only [Act.put, List.setIfInBounds_toArray, List.set_cons_zero, List.set_cons_succ]
        refine wpAnyH_take (i := 24) (oi := ⟨(some 69), _, _, _, _, _⟩) (v := ?vt21_12_22_14_15_16_23_24) rfl (by kernel_rfl) (by kernel_rfl) (by kernel_rfl) (fun _ _ _ h => h) (Or.inl ⟨by rfl, ?yt21_12_22_14_15_16_23_24⟩) hHeld ?_
        case yt21_12_22_14_15_16_23_24 => (intro W0 hSw; go_simp; try with_reducible rfl)
        try simp only [Act.put, List.setIfInBounds_toArray, List.set_cons_zero, List.set_cons_succ]
        refine wpAnyH_take (i := 25) (oi := ⟨(some 70), _, _, _, _, _⟩) (v := ?vt21_12_22_14_15_16_23_25) rfl (by kernel_rfl) (by kernel_rfl) (by kernel_rfl) (fun _ _ _ h => h) (Or.inl ⟨by rfl, ?yt21_12_22_14_15_16_23_25⟩) hHeld ?_
        case yt21_12_22_14_15_16_23_25 => (intro W0 hSw; go_simp; try with_reducible rfl)
        try simp only [Act.put, List.setIfInBounds_toArray, List.set_cons_zero, List.set_cons_succ]
        refine wpAnyH_take (i := 26) (oi := ⟨(some 6), _, _, _, _, _⟩) (v := ?vt21_12_22_14_15_16_23_26) rfl (by kernel_rfl) (by kernel_rfl) (by kernel_rfl) (fun _ _ _ h => h) (Or.inl ⟨by rfl, ?yt21_12_22_14_15_16_23_26⟩) hHeld ?_
        case yt21_12_22_14_15_16_23_26 => (intro W0 hSw; go_simp; try with_reducible rfl)
        try simp only [Act.put, List.setIfInBounds_toArray, List.set_cons_zero, List.set_cons_succ]
        refine wpAnyH_done (by kernel_rfl) ?_ _
        go_wp2_with fail
        go_ret
        exact ⟨rfl, hB9 _ hHeld⟩
    · refine step_conv (by rfl) 9 24 5 (.tmp 58) rfl Tryd.underlying9 Tryd.underlying24 Tryd.underlying5 b (by rfl) ?_
      intro A14 c14 W2 f14 l14 g2
      refine hK.out _ _ (below_next hHeld hHeld.size g2) (fun hHeld => ?_)
      clear hK K
      try simp only [Act.put, List.setIfInBounds_toArray, List.set_cons_zero, List.set_cons_succ]
      refine wpAnyH_ready (rs := [12, 22]) (by kernel_rfl) (by simp) ?_
      refine AllReadyH.cons (i := 12) (o := ⟨(some 57), _, _, _, _, _⟩) rfl (fun K hK => ?_) (AllReadyH.cons (i := 22) (o := ⟨(some 67), _, _, _, _, _⟩) rfl (fun K hK => ?_) AllReadyH.nil)
      · refine step_conv (by rfl) 9 24 5 (.tmp 56) rfl Tryd.underlying9 Tryd.underlying24 Tryd.underlying5 a (by rfl) ?_
        intro A12 c12 W3 f12 l12 g3
        refine hK.out _ _ (below_next hHeld hHeld.size g3) (fun hHeld => ?_)
        clear hK K
        try simp only [Act.put, List.setIfInBounds_toArray, List.set_cons_zero, List.set_cons_succ]
        refine wpAnyH_ready (rs := [15, 22]) (by kernel_rfl) (by simp) ?_
        refine AllReadyH.cons (i := 15) (o := ⟨(some 60), _, _, _, _, _⟩) rfl (fun K hK => ?_) (AllReadyH.cons (i := 22) (o := ⟨(some 67), _, _, _, _, _⟩) rfl (fun K hK => ?_) AllReadyH.nil)
        · refine step_two (by rfl) (.tmp 57) (.tmp 59) rfl A12 A14 a.data.toList b.data.toList a.size c12 b.size c14 (by rfl) (by rfl) (f12) (size_list a) l12 ((f14).next g3) (size_list b) l14 ?_
          intro A15 W4 f15 g4
          refine hK.out _ _ (below_next hHeld hHeld.size g4) (fun hHeld => ?_)
          clear hK K
          try simp only [Act.put, List.setIfInBounds_toArray, List.set_cons_zero, List.set_cons_succ]
          refine wpAnyH_ready (rs := [16, 22]) (by kernel_rfl) (by simp) ?_
          refine AllReadyH.cons (i := 16) (o := ⟨(some 61), _, _, _, _, _⟩) rfl (fun K hK => ?_) (AllReadyH.cons (i := 22) (o := ⟨(some 67), _, _, _, _, _⟩) rfl (fun K hK => ?_) AllReadyH.nil)
          · refine step_mac (by rfl) (.tmp 55) (.tmp 60) rfl (some ⟨w.heap.size, 0, none⟩) A15 key [a.data.toList, b.data.toList] 32 32 2 2 (by rfl) (by rfl) (byt_row (row_next hk9 hHeld).out) HKL.out (by omega) (by omega) (f15) rfl (by omega) (hL2) (hla.below hla.2.2 (hB9 _ hHeld)) ?_
            intro W5 g5
            rw [hT2.out]
            refine hK.out _ _ (below_next hHeld hHeld.size g5) (fun hHeld => ?_)
            clear hK K
            try simp only [Act.put, List.setIfInBounds_toArray, List.set_cons_zero, List.set_cons_succ]
            refine wpAnyH_ready (rs := [22]) (by kernel_rfl) (by simp) ?_
            refine AllReadyH.cons (i := 22) (o := ⟨(some 67), _, _, _, _, _⟩) rfl (fun K hK => ?_) AllReadyH.nil
            refine step_one (by rfl) (.tmp 66) rfl A21 (a ++ b).data.toList (a ++ b).size c21 (by rfl) (((((f21).next g2).next g3).next g4).next g5) (size_list (a ++ b)) l21 ?_
            intro A22 W6 f22 g6
            refine hK.out _ _ (below_next hHeld hHeld.size g6) (fun hHeld => ?_)
            clear hK K
            try simp only [Act.put, List.setIfInBounds_toArray, List.set_cons_zero, List.set_cons_succ]
            refine wpAnyH_ready (rs := [23]) (by kernel_rfl) (by simp) ?_
            refine AllReadyH.cons (i := 23) (o := ⟨(some 68), _, _, _, _, _⟩) rfl (fun K hK => ?_) AllReadyH.nil
            refine step_mac (by rfl) (.tmp 62) (.tmp 67) rfl (some ⟨w.heap.size, 0, none⟩) A22 key [(a ++ b).data.toList] 32 32 1 1 (by rfl) (by rfl) (byt_row (row_next hk9 hHeld).out) HKL.out (by omega) (by omega) (f22) rfl (by omega) (hL1) (hla.below hla.2.2 (hB9 _ hHeld)) ?_
            intro W7 g7
            rw [hT1.out]
            refine hK.out _ _ (below_next hHeld hHeld.size g7) (fun hHeld => ?_)
            clear hK K
            try simp only [Act.put, List.setIfInBounds_toArray, List.set_cons_zero, List.set_cons_succ]
            refine wpAnyH_take (i := 24) (oi := ⟨(some 69), _, _, _, _, _⟩) (v := ?vt21_14_12_15_16_22_23_24) rfl (by kernel_rfl) (by kernel_rfl) (by kernel_rfl) (fun _ _ _ h => h) (Or.inl ⟨by rfl, ?yt21_14_12_15_16_22_23_24⟩) hHeld ?_
            case yt21_14_12_15_16_22_23_24 => (intro W0 hSw; go_simp; try with_reducible rfl)
            try simp only [Act.put, List.setIfInBounds_toArray, List.set_cons_zero, List.set_cons_succ]
            refine wpAnyH_take (i := 25) (oi := ⟨(some 70), _, _, _, _, _⟩) (v := ?vt21_14_12_15_16_22_23_25) rfl (by kernel_rfl) (by kernel_rfl) (by kernel_rfl) (fun _ _ _ h => h) (Or.inl ⟨by rfl, ?yt21_14_12_15_16_22_23_25⟩) hHeld ?_
            case yt21_14_12_15_16_22_23_25 => (intro W0 hSw; go_simp; try with_reducible rfl)
            try simp only [Act.put, List.setIfInBounds_toArray, List.set_cons_zero, List.set_cons_succ]
            refine wpAnyH_take (i := 26) (oi := ⟨(some 6), _, _, _, _, _⟩) (v := ?vt21_14_12_15_16_22_23_26) rfl (by kernel_rfl) (by kernel_rfl) (by kernel_rfl) (fun _ _ _ h => h) (Or.inl ⟨by rfl, ?yt21_14_12_15_16_22_23_26⟩) hHeld ?_
            case yt21_14_12_15_16_22_23_26 => (intro W0 hSw; go_simp; try with_reducible rfl)
            try simp only [Act.put, List.setIfInBounds_toArray, List.set_cons_zero, List.set_cons_succ]
            refine wpAnyH_done (by kernel_rfl) ?_ _
            go_wp2_with fail
            go_ret
            exact ⟨rfl, hB9 _ hHeld⟩
          · refine step_one (by rfl) (.tmp 66) rfl A21 (a ++ b).data.toList (a ++ b).size c21 (by rfl) ((((f21).next g2).next g3).next g4) (size_list (a ++ b)) l21 ?_
            intro A22 W5 f22 g5
            refine hK.out _ _ (below_next hHeld hHeld.size g5) (fun hHeld => ?_)
            clear hK K
            try simp only [Act.put, List.setIfInBounds_toArray, List.set_cons_zero, List.set_cons_succ]
            refine wpAnyH_ready (rs := [16]) (by kernel_rfl) (by simp) ?_
            refine AllReadyH.cons (i := 16) (o := ⟨(some 61), _, _, _, _, _⟩) rfl (fun K hK => ?_) AllReadyH.nil
            refine step_mac (by rfl) (.tmp 55) (.tmp 60) rfl (some ⟨w.heap.size, 0, none⟩) A15 key [a.data.toList, b.data.toList] 32 32 2 2 (by rfl) (by rfl) (byt_row (row_next hk9 hHeld).out) HKL.out (by omega) (by omega) ((f15).next g5) rfl (by omega) (hL2) (hla.below hla.2.2 (hB9 _ hHeld)) ?_
            intro W6 g6
            rw [hT2.out]
            refine hK.out _ _ (below_next hHeld hHeld.size g6) (fun hHeld => ?_)
            clear hK K
            try simp only [Act.put, List.setIfInBounds_toArray, List.set_cons_zero, List.set_cons_succ]
            refine wpAnyH_ready (rs := [23]) (by kernel_rfl) (by simp) ?_
            refine AllReadyH.cons (i := 23) (o := ⟨(some 68), _, _, _, _, _⟩) rfl (fun K hK => ?_) AllReadyH.nil
            refine step_mac (by rfl) (.tmp 62) (.tmp 67) rfl (some ⟨w.heap.size, 0, none⟩) A22 key [(a ++ b).data.toList] 32 32 1 1 (by rfl) (by rfl) (byt_row (row_next hk9 hHeld).out) HKL.out (by omega) (by omega) ((f22).next g6) rfl (by omega) (hL1) (hla.below hla.2.2 (hB9 _ hHeld)) ?_
            intro W7 g7
            rw [hT1.out]
            refine hK.out _ _ (below_next hHeld hHeld.size g7) (fun hHeld => ?_)
            clear hK K
            try simp only [Act.put, List.setIfInBounds_toArray, List.set_cons_zero, List.set_cons_succ]
            refine wpAnyH_take (i := 24) (oi := ⟨(some 69), _, _, _, _, _⟩) (v := ?vt21_14_12_15_22_16_23_24) rfl (by kernel_rfl) (by kernel_rfl) (by kernel_rfl) (fun _ _ _ h => h) (Or.inl ⟨by rfl, ?yt21_14_12_15_22_16_23_24⟩) hHeld ?_
            case yt21_14_12_15_22_16_23_24 => (intro W0 hSw; go_simp; try with_reducible rfl)
            try simp only [Act.put, List.setIfInBounds_toArray, List.set_cons_zero, List.set_cons_succ]
            refine wpAnyH_take (i := 25) (oi := ⟨(some 70), _, _, _, _, _⟩) (v := ?vt21_14_12_15_22_16_23_25) rfl (by kernel_rfl) (by kernel_rfl) (by kernel_rfl) (fun _ _ _ h => h) (Or.inl ⟨by rfl, ?yt21_14_12_15_22_16_23_25⟩) hHeld ?_
            case yt21_14_12_15_22_16_23_25 => (intro W0 hSw; go_simp; try with_reducible rfl)
            try simp only [Act.put, List.setIfInBounds_toArray, List.set_cons_zero, List.set_cons_succ]
            refine wpAnyH_take (i := 26) (oi := ⟨(some 6), _, _, _, _, _⟩) (v := ?vt21_14_12_15_22_16_23_26) rfl (by kernel_rfl) (by kernel_rfl) (by kernel_rfl) (fun _ _ _ h => h) (Or.inl ⟨by rfl, ?yt21_14_12_15_22_16_23_26⟩) hHeld ?_
            case yt21_14_12_15_22_16_23_26 => (intro W0 hSw; go_simp; try with_reducible rfl)
            try simp only [Act.put, List.setIfInBounds_toArray, List.set_cons_zero, List.set_cons_succ]
            refine wpAnyH_done (by kernel_rfl) ?_ _
            go_wp2_with fail
            go_ret
            exact ⟨rfl, hB9 _ hHeld⟩
        · refine step_one (by rfl) (.tmp 66) rfl A21 (a ++ b).data.toList (a ++ b).size c21 (by rfl) (((f21).next g2).next g3) (size_list (a ++ b)) l21 ?_
          intro A22 W4 f22 g4
          refine hK.out _ _ (below_next hHeld hHeld.size g4) (fun hHeld => ?_)
          clear hK K
          try simp only [Act.put, List.setIfInBounds_toArray, List.set_cons_zero, List.set_cons_succ]
          refine wpAnyH_ready (rs := [15]) (by kernel_rfl) (by simp) ?_
          refine AllReadyH.cons (i := 15) (o := ⟨(some 60), _, _, _, _, _⟩) rfl (fun K hK => ?_) AllReadyH.nil
          refine step_two (by rfl) (.tmp 57) (.tmp 59) rfl A12 A14 a.data.toList b.data.toList a.size c12 b.size c14 (by rfl) (by rfl) ((f12).next g4) (size_list a) l12 (((f14).next g3).next g4) (size_list b) l14 ?_
          intro A15 W5 f15 g5
          refine hK.out _ _ (below_next hHeld hHeld.size g5) (fun hHeld => ?_)
          clear hK K
          try simp only [Act.put, List.setIfInBounds_toArray, List.set_cons_zero, List.set_cons_succ]
          refine wpAnyH_ready (rs := [16]) (by kernel_rfl) (by simp) ?_
          refine AllReadyH.cons (i := 16) (o := ⟨(some 61), _, _, _, _, _⟩) rfl (fun K hK => ?_) AllReadyH.nil
          refine step_mac (by rfl) (.tmp 55) (.tmp 60) rfl (some ⟨w.heap.size, 0, none⟩) A15 key [a.data.toList, b.data.toList] 32 32 2 2 (by rfl) (by rfl) (byt_row (row_next hk9 hHeld).out) HKL.out (by omega) (by omega) (f15) rfl (by omega) (hL2) (hla.below hla.2.2 (hB9 _ hHeld)) ?_
          intro W6 g6
          rw [hT2.out]
          refine hK.out _ _ (below_next hHeld hHeld.size g6) (fun hHeld => ?_)
          clear hK K
          try simp only [Act.put, List.setIfInBounds_toArray, List.set_cons_zero, List.set_cons_succ]
          refine wpAnyH_ready (rs := [23]) (by kernel_rfl) (by simp) ?_
          refine AllReadyH.cons (i := 23) (o := ⟨(some 68), _, _, _, _, _⟩) rfl (fun K hK => ?_) AllReadyH.nil
          refine step_mac (by rfl) (.tmp 62) (.tmp 67) rfl (some ⟨w.heap.size, 0, none⟩) A22 key [(a ++ b).data.toList] 32 32 1 1 (by rfl) (by rfl) (byt_row (row_next hk9 hHeld).out) HKL.out (by omega) (by omega) (((f22).next g5).next g6) rfl (by omega) (hL1) (hla.below hla.2.2 (hB9 _ hHeld)) ?_
          intro W7 g7
          rw [hT1.out]
          refine hK.out _ _ (below_next hHeld hHeld.size g7) (fun hHeld => ?_)
          clear hK K
          try simp only [Act.put, List.setIfInBounds_toArray, List.set_cons_zero, List.set_cons_succ]
          refine wpAnyH_take (i := 24) (oi := ⟨(some 69), _, _, _, _, _⟩) (v := ?vt21_14_12_22_15_16_23_24) rfl (by kernel_rfl) (by kernel_rfl) (by kernel_rfl) (fun _ _ _ h => h) (Or.inl ⟨by rfl, ?yt21_14_12_22_15_16_23_24⟩) hHeld ?_
          case yt21_14_12_22_15_16_23_24 => (intro W0 hSw; go_simp; try with_reducible rfl)
          try simp only [Act.put, List.setIfInBounds_toArray, List.set_cons_zero, List.set_cons_succ]
          refine wpAnyH_take (i := 25) (oi := ⟨(some 70), _, _, _, _, _⟩) (v := ?vt21_14_12_22_15_16_23_25) rfl (by kernel_rfl) (by kernel_rfl) (by kernel_rfl) (fun _ _ _ h => h) (Or.inl ⟨by rfl, ?yt21_14_12_22_15_16_23_25⟩) hHeld ?_
          case yt21_14_12_22_15_16_23_25 => (intro W0 hSw; go_simp; try with_reducible rfl)
          try simp only [Act.put, List.setIfInBounds_toArray, List.set_cons_zero, List.set_cons_succ]
          refine wpAnyH_take (i := 26) (oi := ⟨(some 6), _, _, _, _, _⟩) (v := ?vt21_14_12_22_15_16_23_26) rfl (by kernel_rfl) (by kernel_rfl) (by kernel_rfl) (fun _ _ _ h => h) (Or.inl ⟨by rfl, ?yt21_14_12_22_15_16_23_26⟩) hHeld ?_
          case yt21_14_12_22_15_16_23_26 => (intro W0 hSw; go_simp; try with_reducible rfl)
          try simp only [Act.put, List.setIfInBounds_toArray, List.set_cons_zero, List.set_cons_succ]
          refine wpAnyH_done (by kernel_rfl) ?_ _
          go_wp2_with fail
          go_ret
          exact ⟨rfl, hB9 _ hHeld⟩
      · refine step_one (by rfl) (.tmp 66) rfl A21 (a ++ b).data.toList (a ++ b).size c21 (by rfl) ((f21).next g2) (size_list (a ++ b)) l21 ?_
        intro A22 W3 f22 g3
        refine hK.out _ _ (below_next hHeld hHeld.size g3) (fun hHeld => ?_)
        clear hK K
        try simp only [Act.put, List.setIfInBounds_toArray, List.set_cons_zero, List.set_cons_succ]
        refine wpAnyH_ready (rs := [12]) (by kernel_rfl) (by simp) ?_
        refine AllReadyH.cons (i := 12) (o := ⟨(some 57), _, _, _, _, _⟩) rfl (fun K hK => ?_) AllReadyH.nil
        refine step_conv (by rfl) 9 24 5 (.tmp 56) rfl Tryd.underlying9 Tryd.underlying24 Tryd.underlying5 a (by rfl) ?_
        intro A12 c12 W4 f12 l12 g4
        refine hK.out _ _ (below_next hHeld hHeld.size g4) (fun hHeld => ?_)
        clear hK K
        try simp only [Act.put, List.setIfInBounds_toArray, List.set_cons_zero, List.set_cons_succ]
        refine wpAnyH_ready (rs := [15]) (by kernel_rfl) (by simp) ?_
        refine AllReadyH.cons (i := 15) (o := ⟨(some 60), _, _, _, _, _⟩) rfl (fun K hK => ?_) AllReadyH.nil
        refine step_two (by rfl) (.tmp 57) (.tmp 59) rfl A12 A14 a.data.toList b.data.toList a.size c12 b.size c14 (by rfl) (by rfl) (f12) (size_list a) l12 (((f14).next g3).next g4) (size_list b) l14 ?_
        intro A15 W5 f15 g5
        refine hK.out _ _ (below_next hHeld hHeld.size g5) (fun hHeld => ?_)
        clear hK K
        try simp only [Act.put, List.setIfInBounds_toArray, List.set_cons_zero, List.set_cons_succ]
        refine wpAnyH_ready (rs := [16]) (by kernel_rfl) (by simp) ?_
        refine AllReadyH.cons (i := 16) (o := ⟨(some 61), _, _, _, _, _⟩) rfl (fun K hK => ?_) AllReadyH.nil
        refine step_mac (by rfl) (.tmp 55) (.tmp 60) rfl (some ⟨w.heap.size, 0, none⟩) A15 key [a.data.toList, b.data.toList] 32 32 2 2 (by rfl) (by rfl) (byt_row (row_next hk9 hHeld).out) HKL.out (by omega) (by omega) (f15) rfl (by omega) (hL2) (hla.below hla.2.2 (hB9 _ hHeld)) ?_
        intro W6 g6
        rw [hT2.out]
        refine hK.out _ _ (below_next hHeld hHeld.size g6) (fun hHeld => ?_)
        clear hK K
        try simp only [Act.put, List.setIfInBounds_toArray, List.set_cons_zero, List.set_cons_succ]
        refine wpAnyH_ready (rs := [23]) (by kernel_rfl) (by simp) ?_
        refine AllReadyH.cons (i := 23) (o := ⟨(some 68), _, _, _, _, _⟩) rfl (fun K hK => ?_) AllReadyH.nil
        refine step_mac (by rfl) (.tmp 62) (.tmp 67) rfl (some ⟨w.heap.size, 0, none⟩) A22 key [(a ++ b).data.toList] 32 32 1 1 (by rfl) (by rfl) (byt_row (row_next hk9 hHeld).out) HKL.out (by omega) (by omega) ((((f22).next g4).next g5).next g6) rfl (by omega) (hL1) (hla.below hla.2.2 (hB9 _ hHeld)) ?_
        intro W7 g7
        rw [hT1.out]
        refine hK.out _ _ (below_next hHeld hHeld.size g7) (fun hHeld => ?_)
        clear hK K
        try simp only [Act.put, List.setIfInBounds_toArray, List.set_cons_zero, List.set_cons_succ]
        refine wpAnyH_take (i := 24) (oi := ⟨(some 69), _, _, _, _, _⟩) (v := ?vt21_14_22_12_15_16_23_24) rfl (by kernel_rfl) (by kernel_rfl) (by kernel_rfl) (fun _ _ _ h => h) (Or.inl ⟨by rfl, ?yt21_14_22_12_15_16_23_24⟩) hHeld ?_
        case yt21_14_22_12_15_16_23_24 => (intro W0 hSw; go_simp; try with_reducible rfl)
        try simp only [Act.put, List.setIfInBounds_toArray, List.set_cons_zero, List.set_cons_succ]
        refine wpAnyH_take (i := 25) (oi := ⟨(some 70), _, _, _, _, _⟩) (v := ?vt21_14_22_12_15_16_23_25) rfl (by kernel_rfl) (by kernel_rfl) (by kernel_rfl) (fun _ _ _ h => h) (Or.inl ⟨by rfl, ?yt21_14_22_12_15_16_23_25⟩) hHeld ?_
        case yt21_14_22_12_15_16_23_25 => (intro W0 hSw; go_simp; try with_reducible rfl)
        try simp only [Act.put, List.setIfInBounds_toArray, List.set_cons_zero, List.set_cons_succ]
        refine wpAnyH_take (i := 26) (oi := ⟨(some 6), _, _, _, _, _⟩) (v := ?vt21_14_22_12_15_16_23_26) rfl (by kernel_rfl) (by kernel_rfl) (by kernel_rfl) (fun _ _ _ h => h) (Or.inl ⟨by rfl, ?yt21_14_22_12_15_16_23_26⟩) hHeld ?_
        case yt21_14_22_12_15_16_23_26 => (intro W0 hSw; go_simp; try with_reducible rfl)
        try simp only [Act.put, List.setIfInBounds_toArray, List.set_cons_zero, List.set_cons_succ]
        refine wpAnyH_done (by kernel_rfl) ?_ _
        go_wp2_with fail
        go_ret
        exact ⟨rfl, hB9 _ hHeld⟩
    · refine step_one (by rfl) (.tmp 66) rfl A21 (a ++ b).data.toList (a ++ b).size c21 (by rfl) (f21) (size_list (a ++ b)) l21 ?_
      intro A22 W2 f22 g2
      refine hK.out _ _ (below_next hHeld hHeld.size g2) (fun hHeld => ?_)
      clear hK K
      try simp only [Act.put, List.setIfInBounds_toArray, List.set_cons_zero, List.set_cons_succ]
      refine wpAnyH_ready (rs := [12, 14]) (by kernel_rfl) (by simp) ?_
      refine AllReadyH.cons (i := 12) (o := ⟨(some 57), _, _, _, _, _⟩) rfl (fun K hK => ?_) (AllReadyH.cons (i := 14) (o := ⟨(some 59), _, _, _, _, _⟩) rfl (fun K hK => ?_) AllReadyH.nil)
      · refine step_conv (by rfl) 9 24 5 (.tmp 56) rfl Tryd.underlying9 Tryd.underlying24 Tryd.underlying5 a (by rfl) ?_
        intro A12 c12 W3 f12 l12 g3
        refine hK.out _ _ (below_next hHeld hHeld.size g3) (fun hHeld => ?_)
        clear hK K
        try simp only [Act.put, List.setIfInBounds_toArray, List.set_cons_zero, List.set_cons_succ]
        refine wpAnyH_ready (rs := [14]) (by kernel_rfl) (by simp) ?_
        refine AllReadyH.cons (i := 14) (o := ⟨(some 59), _, _, _, _, _⟩) rfl (fun K hK => ?_) AllReadyH.nil
        refine step_conv (by rfl) 9 24 5 (.tmp 58) rfl Tryd.underlying9 Tryd.underlying24 Tryd.underlying5 b (by rfl) ?_
        intro A14 c14 W4 f14 l14 g4
        refine hK.out _ _ (below_next hHeld hHeld.size g4) (fun hHeld => ?_)
        clear hK K
        try simp only [Act.put, List.setIfInBounds_toArray, List.set_cons_zero, List.set_cons_succ]
        refine wpAnyH_ready (rs := [15]) (by kernel_rfl) (by simp) ?_
        refine AllReadyH.cons (i := 15) (o := ⟨(some 60), _, _, _, _, _⟩) rfl (fun K hK => ?_) AllReadyH.nil
        refine step_two (by rfl) (.tmp 57) (.tmp 59) rfl A12 A14 a.data.toList b.data.toList a.size c12 b.size c14 (by rfl) (by rfl) ((f12).next g4) (size_list a) l12 (f14) (size_list b) l14 ?_
        intro A15 W5 f15 g5
        refine hK.out _ _ (below_next hHeld hHeld.size g5) (fun hHeld => ?_)
        clear hK K
        try simp only [Act.put, List.setIfInBounds_toArray, List.set_cons_zero, List.set_cons_succ]
        refine wpAnyH_ready (rs := [16]) (by kernel_rfl) (by simp) ?_
        refine AllReadyH.cons (i := 16) (o := ⟨(some 61), _, _, _, _, _⟩) rfl (fun K hK => ?_) AllReadyH.nil
        refine step_mac (by rfl) (.tmp 55) (.tmp 60) rfl (some ⟨w.heap.size, 0, none⟩) A15 key [a.data.toList, b.data.toList] 32 32 2 2 (by rfl) (by rfl) (byt_row (row_next hk9 hHeld).out) HKL.out (by omega) (by omega) (f15) rfl (by omega) (hL2) (hla.below hla.2.2 (hB9 _ hHeld)) ?_
        intro W6 g6
        rw [hT2.out]
        refine hK.out _ _ (below_next hHeld hHeld.size g6) (fun hHeld => ?_)
        clear hK K
        try simp only [Act.put, List.setIfInBounds_toArray, List.set_cons_zero, List.set_cons_succ]
        refine wpAnyH_ready (rs := [23]) (by kernel_rfl) (by simp) ?_
        refine AllReadyH.cons (i := 23) (o := ⟨(some 68), _, _, _, _, _⟩) rfl (fun K hK => ?_) AllReadyH.nil
        refine step_mac (by rfl) (.tmp 62) (.tmp 67) rfl (some ⟨w.heap.size, 0, none⟩) A22 key [(a ++ b).data.toList] 32 32 1 1 (by rfl) (by rfl) (byt_row (row_next hk9 hHeld).out) HKL.out (by omega) (by omega) (((((f22).next g3).next g4).next g5).next g6) rfl (by omega) (hL1) (hla.below hla.2.2 (hB9 _ hHeld)) ?_
        intro W7 g7
        rw [hT1.out]
        refine hK.out _ _ (below_next hHeld hHeld.size g7) (fun hHeld => ?_)
        clear hK K
        try simp only [Act.put, List.setIfInBounds_toArray, List.set_cons_zero, List.set_cons_succ]
        refine wpAnyH_take (i := 24) (oi := ⟨(some 69), _, _, _, _, _⟩) (v := ?vt21_22_12_14_15_16_23_24) rfl (by kernel_rfl) (by kernel_rfl) (by kernel_rfl) (fun _ _ _ h => h) (Or.inl ⟨by rfl, ?yt21_22_12_14_15_16_23_24⟩) hHeld ?_
        case yt21_22_12_14_15_16_23_24 => (intro W0 hSw; go_simp; try with_reducible rfl)
        try simp only [Act.put, List.setIfInBounds_toArray, List.set_cons_zero, List.set_cons_succ]
        refine wpAnyH_take (i := 25) (oi := ⟨(some 70), _, _, _, _, _⟩) (v := ?vt21_22_12_14_15_16_23_25) rfl (by kernel_rfl) (by kernel_rfl) (by kernel_rfl) (fun _ _ _ h => h) (Or.inl ⟨by rfl, ?yt21_22_12_14_15_16_23_25⟩) hHeld ?_
        case yt21_22_12_14_15_16_23_25 => (intro W0 hSw; go_simp; try with_reducible rfl)
        try simp only [Act.put, List.setIfInBounds_toArray, List.set_cons_zero, List.set_cons_succ]
        refine wpAnyH_take (i := 26) (oi := ⟨(some 6), _, _, _, _, _⟩) (v := ?vt21_22_12_14_15_16_23_26) rfl (by kernel_rfl) (by kernel_rfl) (by kernel_rfl) (fun _ _ _ h => h) (Or.inl ⟨by rfl, ?yt21_22_12_14_15_16_23_26⟩) hHeld ?_
        case yt21_22_12_14_15_16_23_26 => (intro W0 hSw; go_simp; try with_reducible rfl)
        try simp only [Act.put, List.setIfInBounds_toArray, List.set_cons_zero, List.set_cons_succ]
        refine wpAnyH_done (by kernel_rfl) ?_ _
        go_wp2_with fail
        go_ret
        exact ⟨rfl, hB9 _ hHeld⟩
      · refine step_conv (by rfl) 9 24 5 (.tmp 58) rfl Tryd.underlying9 Tryd.underlying24 Tryd.underlying5 b (by rfl) ?_
        intro A14 c14 W3 f14 l14 g3
        refine hK.out _ _ (below_next hHeld hHeld.size g3) (fun hHeld => ?_)
        clear hK K
        try simp only [Act.put, List.setIfInBounds_toArray, List.set_cons_zero, List.set_cons_succ]
        refine wpAnyH_ready (rs := [12]) (by kernel_rfl) (by simp) ?_
        refine AllReadyH.cons (i := 12) (o := ⟨(some 57), _, _, _, _, _⟩) rfl (fun K hK => ?_) AllReadyH.nil
        refine step_conv (by rfl) 9 24 5 (.tmp 56) rfl Tryd.underlying9 Tryd.underlying24 Tryd.underlying5 a (by rfl) ?_
        intro A12 c12 W4 f12 l12 g4
        refine hK.out _ _ (below_next hHeld hHeld.size g4) (fun hHeld => ?_)
        clear hK K
        try simp only [Act.put, List.setIfInBounds_toArray, List.set_cons_zero, List.set_cons_succ]
        refine wpAnyH_ready (rs := [15]) (by kernel_rfl) (by simp) ?_
        refine AllReadyH.cons (i := 15) (o := ⟨(some 60), _, _, _, _, _⟩) rfl (fun K hK => ?_) AllReadyH.nil
        refine step_two (by rfl) (.tmp 57) (.tmp 59) rfl A12 A14 a.data.toList b.data.toList a.size c12 b.size c14 (by rfl) (by rfl) (f12) (size_list a) l12 ((f14).next g4) (size_list b) l14 ?_
        intro A15 W5 f15 g5
        refine hK.out _ _ (below_next hHeld hHeld.size g5) (fun hHeld => ?_)
        clear hK K
        try simp only [Act.put, List.setIfInBounds_toArray, List.set_cons_zero, List.set_cons_succ]
        refine wpAnyH_ready (rs := [16]) (by kernel_rfl) (by simp) ?_
        refine AllReadyH.cons (i := 16) (o := ⟨(some 61), _, _, _, _, _⟩) rfl (fun K hK => ?_) AllReadyH.nil
        refine step_mac (by rfl) (.tmp 55) (.tmp 60) rfl (some ⟨w.heap.size, 0, none⟩) A15 key [a.data.toList, b.data.toList] 32 32 2 2 (by rfl) (by rfl) (byt_row (row_next hk9 hHeld).out) HKL.out (by omega) (by omega) (f15) rfl (by omega) (hL2) (hla.below hla.2.2 (hB9 _ hHeld)) ?_
        intro W6 g6
        rw [hT2.out]
        refine hK.out _ _ (below_next hHeld hHeld.size g6) (fun hHeld => ?_)
        clear hK K
        try simp only [Act.put, List.setIfInBounds_toArray, List.set_cons_zero, List.set_cons_succ]
        refine wpAnyH_ready (rs := [23]) (by kernel_rfl) (by simp) ?_
        refine AllReadyH.cons (i := 23) (o := ⟨(some 68), _, _, _, _, _⟩) rfl (fun K hK => ?_) AllReadyH.nil
        refine step_mac (by rfl) (.tmp 62) (.tmp 67) rfl (some ⟨w.heap.size, 0, none⟩) A22 key [(a ++ b).data.toList] 32 32 1 1 (by rfl) (by rfl) (byt_row (row_next hk9 hHeld).out) HKL.out (by omega) (by omega) (((((f22).next g3).next g4).next g5).next g6) rfl (by omega) (hL1) (hla.below hla.2.2 (hB9 _ hHeld)) ?_
        intro W7 g7
        rw [hT1.out]
        refine hK.out _ _ (below_next hHeld hHeld.size g7) (fun hHeld => ?_)
        clear hK K
        try simp only [Act.put, List.setIfInBounds_toArray, List.set_cons_zero, List.set_cons_succ]
        refine wpAnyH_take (i := 24) (oi := ⟨(some 69), _, _, _, _, _⟩) (v := ?vt21_22_14_12_15_16_23_24) rfl (by kernel_rfl) (by kernel_rfl) (by kernel_rfl) (fun _ _ _ h => h) (Or.inl ⟨by rfl, ?yt21_22_14_12_15_16_23_24⟩) hHeld ?_
        case yt21_22_14_12_15_16_23_24 => (intro W0 hSw; go_simp; try with_reducible rfl)
        try simp only [Act.put, List.setIfInBounds_toArray, List.set_cons_zero, List.set_cons_succ]
        refine wpAnyH_take (i := 25) (oi := ⟨(some 70), _, _, _, _, _⟩) (v := ?vt21_22_14_12_15_16_23_25) rfl (by kernel_rfl) (by kernel_rfl) (by kernel_rfl) (fun _ _ _ h => h) (Or.inl ⟨by rfl, ?yt21_22_14_12_15_16_23_25⟩) hHeld ?_
        case yt21_22_14_12_15_16_23_25 => (intro W0 hSw; go_simp; try with_reducible rfl)
        try simp only [Act.put, List.setIfInBounds_toArray, List.set_cons_zero, List.set_cons_succ]
        refine wpAnyH_take (i := 26) (oi := ⟨(some 6), _, _, _, _, _⟩) (v := ?vt21_22_14_12_15_16_23_26) rfl (by kernel_rfl) (by kernel_rfl) (by kernel_rfl) (fun _ _ _ h => h) (Or.inl ⟨by rfl, ?yt21_22_14_12_15_16_23_26⟩) hHeld ?_
        case yt21_22_14_12_15_16_23_26 => (intro W0 hSw; go_simp; try with_reducible rfl)
        try simp only [Act.put, List.setIfInBounds_toArray, List.set_cons_zero, List.set_cons_succ]
        refine wpAnyH_done (by kernel_rfl) ?_ _
        go_wp2_with fail
        go_ret
        exact ⟨rfl, hB9 _ hHeld⟩
end Go.Proofs.YtmgamjbifffchaaDoor
