/-
  Contract of kdf.Expand where n is from 0 to 8160. Conditions: the info is shorter than 2^32 bytes; the tables lie as the program lays them.
-/
import Derived.Test.YtmgamjbifffchaaDoorKdfB
namespace Go.Proofs.YtmgamjbifffchaaDoor
open Go.RowKit

/-- The k-th sum of HKDF-Expand; the first k of them; the first n bytes. -/
def tk (key info : List UInt8) : Nat → List UInt8
  | 0 => []
  | k + 1 => macOf key (tk key info k ++ (info ++ [UInt8.ofNat (k + 1)]))
theorem tk_len (key info : List UInt8) (k : Nat) : (tk key info (k + 1)).length = 32 := macOf_len _ _
theorem tk_le (key info : List UInt8) : ∀ k, (tk key info k).length ≤ 32
  | 0 => by simp [tk]
  | k + 1 => by rw [tk_len]; exact Nat.le_refl _
def okm (key info : List UInt8) : Nat → List UInt8
  | 0 => []
  | k + 1 => okm key info k ++ tk key info (k + 1)
theorem okm_len (key info : List UInt8) : ∀ k, (okm key info k).length = 32 * k
  | 0 => rfl
  | k + 1 => by rw [okm, List.length_append, okm_len key info k, tk_len]; omega
def expandOf (key info : List UInt8) (n : Nat) : List UInt8 := (okm key info ((n + 31) / 32)).take n
theorem expandOf_len (key info : List UInt8) (n : Nat) : (expandOf key info n).length = n := by rw [expandOf, List.length_take, okm_len]; omega
theorem okm_more (key info : List UInt8) (n k : Nat) : ∀ m, k ≤ m → n ≤ 32 * k → (okm key info m).take n = (okm key info k).take n
  | 0, h, _ => by obtain rfl : k = 0 := by omega
                  rfl
  | m + 1, h, hn => by
    by_cases e : k = m + 1
    · rw [e]
    · rw [okm, List.take_append_of_le_length (by rw [okm_len]; omega)]
      exact okm_more key info n k m (by omega) hn
theorem expandOf_begins (key info : List UInt8) (n m : Nat) (h : n ≤ m) : (expandOf key info m).take n = expandOf key info n := by
  rw [expandOf, List.take_take, Nat.min_eq_left h, expandOf]
  exact okm_more key info n ((n + 31) / 32) _ (by omega) (by omega)

/-- append onto a row of the call's own; every block but that row stays. -/
theorem wp_append_but {P : Program} (w : World) {ops : Array Oper} {rest : List Oper} {o : Oper} {a : Act} {Q : Exit → Act → World → Prop} (hgd : o.guard = none) (s x : Operand) (T : TypeId)
    (ho : o.op = .call { callee := .builtin .append, args := #[s, x], argTypes := #[T, T] }) (E : TypeId) (hT : P.underlying T = some (.slice E))
    (hI : (P.info? E).map (fun i => (i.zero, i.size, i.bytes)) = some (some (.int .u8 0), 1, 1)) (base : Nat) (A : Option Addr) (n c : Nat) (l : List UInt8) (hs : a.eval s = .slice A n c) (hr : Res w base E A n c l)
    (ad : Addr) (m c2 : Nat) (hx : a.eval x = .slice (some ad) m c2) (news : List UInt8) (hl : news.length = m) (hnews : ∀ j u, (bv news)[j]? = some u → w.cell? (ad.add j) = some u) (hsz : n + m ≤ 140737488355328) (hbase : base ≤ w.heap.size)
    (h : ∀ A' c' w', Res w' base E A' (n + m) c' (l ++ news) → (∀ B w0, B ≤ base → Below B w0 w → Below B w0 w') → (∀ (b : Nat) cs t, t ≠ E → w.heap[b]? = some (.cells cs t (0, 0)) → w'.heap[b]? = some (.cells cs t (0, 0))) → wpList P ops Q rest (a.put o.dst (.slice A' (n + m) c')) w') : wpList P ops Q (o :: rest) a w := by
  obtain ⟨i, hi, hz, h1, h2⟩ := info_parts hI
  refine wpList_append_own w hgd s x T ho base E i (.int .u8 0) 1 1 hT hi hz h1 h2 rfl (by decide) _ n (bv l) hs hr ad m c2 (bv news) hx (by rw [bv_len]; omega) hnews (bv_one _) (by unfold maxLen; omega) (by omega) hbase ?_
  intro v' w' hown hgr _
  rw [← bv_app] at hown
  obtain ⟨A', c', rfl, hres⟩ := Res.of v' hown
  refine h A' c' w' hres (fun B w0 hB hb => hb.grown hgr (by omega) fun k hk => by have := World.ownsRow.lt hr k hk; omega) (fun b cs t hne hb => ?_)
  refine (hgr.block b (Array.getElem?_eq_some_iff.1 hb).1 (fun e => ?_)).trans hb
  rcases hr.2 with ⟨h', _⟩ | ⟨g, cap, cur, h', _, hcur, _⟩
  · rw [h'] at e; cases e
  · rw [h'] at e
    injection e with e
    rw [e, hcur] at hb
    injection hb with hb
    injection hb with _ hb
    exact hne hb.symm
/-- A list of three lists. -/
theorem Prt.three {w : World} {E : TypeId} {A D G : Option Addr} {l m q : List UInt8} {n c k d i f : Nat} (ha : Byt w w.heap.size A l) (hl : l.length = n) (hc : n ≤ c) (hd : Byt w w.heap.size D m) (hm : m.length = k) (hk : k ≤ d) (hg : Byt w w.heap.size G q) (hq : q.length = i) (hi : i ≤ f) :
    Prt (w.alloc (.cells #[.slice A n c, .slice D k d, .slice G i f] E)) (w.alloc (.cells #[.slice A n c, .slice D k d, .slice G i f] E)).heap.size (some ⟨w.heap.size, 0, none⟩) [l, m, q] := by
  refine .inr ⟨w.heap.size, 0, rfl, by simp, fun j p hj => ?_⟩
  match j, hj with
  | 0, hj =>
    simp at hj
    subst hj
    exact ⟨A, n, c, by simp, hl, hc, (ha.alloc (Nat.le_refl _) _).up (by simp)⟩
  | 1, hj =>
    simp at hj
    subst hj
    exact ⟨D, k, d, by simp, hm, hk, (hd.alloc (Nat.le_refl _) _).up (by simp)⟩
  | 2, hj =>
    simp at hj
    subst hj
    exact ⟨G, i, f, by simp, hq, hi, (hg.alloc (Nat.le_refl _) _).up (by simp)⟩

theorem okm_step (key info T : List UInt8) (n j t : Nat) (hT : tk key info (j + 1) = T) (hj : 32 * j < n) (ht : t = min 32 (n - 32 * j)) : (okm key info j).take n ++ T.take t = (okm key info (j + 1)).take n := by
  have hl : T.length = 32 := by rw [← hT]; exact tk_len _ _ _
  rw [okm, hT, List.take_append, okm_len, List.take_of_length_le (by rw [okm_len]; omega)]
  congr 1
  by_cases h : n - 32 * j ≤ 32
  · rw [show t = n - 32 * j by omega]
  · rw [List.take_of_length_le (by omega), List.take_of_length_le (by omega)]
theorem new_taken (w : World) (T : List UInt8) (t : Nat) (E : TypeId) : ∀ j u, (bv (T.take t))[j]? = some u → (w.alloc (.cells (bv T).toArray E)).cell? ((⟨w.heap.size, 0, none⟩ : Addr).add j) = some u := by
  intro j u hj
  rw [addr_add, Nat.zero_add, cell_of_row _ _ _ _ _ _ (heap_alloc_new w _)]
  have hjt : j < (bv (T.take t)).length := (List.getElem?_eq_some_iff.1 hj).1
  rw [bv_len, List.length_take] at hjt
  rw [bv_at, List.getElem?_take_of_lt (by omega)] at hj
  simpa [bv_at] using hj
/-- The last sum: none, or 32 bytes in a block of their own. -/
def Lst (w : World) (T : List UInt8) (k : Nat) (v : Value) : Prop := (k = 0 ∧ T = [] ∧ v = .slice none 0 0) ∨ ∃ b, v = .slice (some ⟨b, 0, none⟩) 32 32 ∧ T.length = 32 ∧ w.heap[b]? = some (.cells (bv T).toArray 23 (0, 0))
theorem Lst.parts {w : World} {T : List UInt8} {k : Nat} {v : Value} (h : Lst w T k v) : ∃ A n c, v = .slice A n c ∧ Hid (T.length = n) ∧ n ≤ c ∧ Byt w w.heap.size A T := by
  rcases h with ⟨_, rfl, rfl⟩ | ⟨b, rfl, hl, hb⟩
  · exact ⟨none, 0, 0, rfl, rfl, Nat.le_refl _, Byt.none_⟩
  · exact ⟨_, 32, 32, rfl, hl, Nat.le_refl _, byt_row hb⟩

set_option maxRecDepth 100000 in
set_option maxHeartbeats 1000000 in
theorem expand_any (w : World) (key : List UInt8) (A : Option Addr) (info : List UInt8) (ni ci n : Nat) (hkey : key.length = 32) (ha : Byt w w.heap.size A info) (hi : info.length = ni) (hci : ni ≤ ci) (hni : ni ≤ 4294967296) (hn : n ≤ 8160) (hla : Laid w) :
    Calls Tryd.prog 6 #[.agg (bv key).toArray, .slice A ni ci, .int .i64 (n : Int)] w fun e w' => ∃ A' c', e = .returned (.tuple #[.slice A' n c', .int .i64 0]) ∧ Res w' w.heap.size 5 A' n c' (expandOf key info n) ∧ Below w.heap.size w w' := by
  obtain ⟨i0, hi0, hz0, hz1, hz2⟩ := info_parts Tryd.infoByte
  have hzw := zero_word
  have HKL := Lib.hid hkey
  have HI := Lib.hid hi
  obtain ⟨w2, hrun, hg2, hb2, hs2⟩ := make_bytes (P := Tryd.prog) Tryd.underlying24 hi0 hz0 hz1 hz2 0 n (0 : Int) (n : Int) rfl rfl (by omega) (by omega) (w.alloc (.cells (bv key).toArray 23))
  have hk2 : Hid (w2.heap[w.heap.size]? = some (.cells (bv key).toArray 23 (0, 0))) := (hb2.out.block _ (by simp)).trans (heap_alloc_new _ _)
  have e1 : (w.alloc (.cells (bv key).toArray 23)).heap.size = w.heap.size + 1 := by simp
  rw [e1] at hg2 hb2 hrun
  have hr2 : Hid (Res w2 (w.heap.size + 1) 5 (some ⟨w.heap.size + 1, 0, none⟩) 0 n []) := Res.row (Nat.le_refl _) hg2.out (by omega) (by omega) (by simp [bv]) rfl (by simp [bv])
  have hbw : Below w.heap.size w w2 := ((Below.refl _ _).alloc (Nat.le_refl _) _).trans (hb2.out.mono (by omega))
  clear hi0 hz0 hz1 hz2 hkey hi e1 hg2 hs2
  have d1 : ¬ (8160 < (n : Int)) := by omega
  have d0 : decide ((n : Int) < 0) = false := by simp
  go_enter Tryd.func6, Tryd.ntmps6
  go_wp2
  go_loopw [8, 9, 10] (fun out last i wr => ∃ (j m : Nat) (A2 : Option Addr) (c2 : Nat), i = .int .i64 ((j : Int) + 1) ∧ out = .slice A2 m c2 ∧ Hid (m = min n (32 * j)) ∧ m ≤ n ∧ 32 * j ≤ n + 31 ∧ Res wr (w.heap.size + 1) 5 A2 m c2 ((okm key info j).take n) ∧ Lst wr (tk key info j) j last ∧ Hid (wr.heap[w.heap.size]? = some (.cells (bv key).toArray 23 (0, 0))) ∧ Below w.heap.size w wr) (fun out _ _ _ => n - lenOf out)
  case atStart => exact ⟨0, 0, _, n, rfl, rfl, by show _ = _; simp, by omega, by omega, by simpa [okm] using hr2.out, .inl ⟨rfl, rfl, rfl⟩, hk2, hbw⟩
  case round =>
    clear hr2 hk2 hbw hb2 hrun
    obtain ⟨j, m, A2, c2, rfl, rfl, hm, hmn, hj, hres, hlst, hkr, hb⟩ := hrel
    obtain ⟨LA, ln, lc, rfl, hln, hlc, hlb⟩ := hlst.parts
    clear hlst
    have hsk : w.heap.size < wr.heap.size := (Array.getElem?_eq_some_iff.1 hkr.out).1
    by_cases hlt : m < n
    · have hm2 : 32 * j < n := by have := hm.out; omega
      have hcutk := cut_all Tryd.underlying23 Tryd.sizeByte w.heap.size 0 (by decide)
      have hbyte : (#[Value.int .u8 ((j : Int) + 1)] : Array Value).toList = bv [UInt8.ofNat (j + 1)] := by
        simp [bv, UInt8.toNat_ofNat']; omega
      have hone := Byt.lit wr 5 #[.int .u8 ((j : Int) + 1)] [UInt8.ofNat (j + 1)] hbyte
      have hw3 : Below wr.heap.size wr (wr.alloc (.cells #[.int .u8 ((j : Int) + 1)] 5)) := (Below.refl _ _).alloc (Nat.le_refl _) _
      have hprt := Prt.three (E := 24) ((hlb.below hw3).up hw3.size) hln.out hlc (((ha.below hb).up hb.size).below hw3 |>.up hw3.size) HI.out hci hone rfl (Nat.le_refl 1)
      have hw4 : Below wr.heap.size wr ((wr.alloc (.cells #[.int .u8 ((j : Int) + 1)] 5)).alloc (.cells #[.slice LA ln lc, .slice A ni ci, .slice (some ⟨wr.heap.size, 0, none⟩) 1 1] 24)) := hw3.alloc (by simp) _
      have hbw4 := below_next hb hb.size hw4
      have hkey := byt_row (w := wr) hkr.out
      have hmac := mac_any _ (some ⟨w.heap.size, 0, none⟩) key 32 32 _ [tk key info j, info, [UInt8.ofNat (j + 1)]] 3 3 ((hkey.below hw4).up hw4.size) HKL.out (by omega) (by omega) hprt rfl (by omega)
        (by have h1 := tk_le key info j; have h2 := HI.out; simp; omega) (hla.below hla.2.2 hbw4)
      have e1 : (wr.alloc (.cells #[.int .u8 ((j : Int) + 1)] 5)).heap.size = wr.heap.size + 1 := by simp
      rw [e1] at hmac
      clear hprt hone hbyte hkey e1 hw3
      go_wp2_with fail
      refine hmac.mono ?_
      rintro e w4 ⟨rfl, hb4⟩
      clear hmac
      obtain ⟨T, hT⟩ : ∃ T, T = macOf key [tk key info j, info, [UInt8.ofNat (j + 1)]].flatten := ⟨_, rfl⟩
      rw [← hT]
      have hTl : T.length = 32 := by rw [hT]; exact macOf_len _ _
      have HT := Lib.hid (show tk key info (j + 1) = T by rw [hT, tk]; simp)
      have HTL := Lib.hid hTl
      have HTS := Lib.hid (show (bv T).toArray.size = 32 by simp [bv_len, hTl])
      have HZ3 := Lib.hid (show (bv z32).toArray.size = 32 from rfl)
      have hbr4 : Below wr.heap.size wr w4 := below_next hw4 hw4.size hb4
      have hr4 := hres.keep hbr4
      have hk4 : Hid (w4.heap[w.heap.size]? = some (.cells (bv key).toArray 23 (0, 0))) := (hbr4.block _ hsk).trans hkr.out
      have hb4' : Below w.heap.size w w4 := below_next hb hb.size hbr4
      have hcut := cut_all Tryd.underlying23 Tryd.sizeByte w4.heap.size 0 (by decide)
      clear hT hTl hw4 hbw4 hb4 hbr4 hres hkr hlb hcutk
      have hsk4 : w.heap.size < w4.heap.size := (Array.getElem?_eq_some_iff.1 hk4.out).1
      have hm3 := hm.out
      by_cases hq : (n : Int) - (m : Int) < 32
      · have hq2 : n - m < 32 := by omega
        clear hm3
        go_wp2_with (first
        | ((with_reducible refine wpList_store_row rfl 23 (.tmp 11) (.tmp 33) rfl w4.heap.size (bv T).toArray rfl rfl 23 _ (heap_alloc_new _ _) (by rw [HTS.out]; kernel_rfl) (by rw [HTS.out]; exact HZ3.out) (all_oneCell_toArray (bv_one _)) ?_); rw [World.setRow_alloc_new])
        | (at_builtin; refine wp_append_but _ rfl (.tmp 35) (.tmp 42) 24 rfl 5 Tryd.underlying24 Tryd.infoByte (w.heap.size + 1) A2 m c2 _ rfl (hr4.alloc _) ⟨w4.heap.size, 0, none⟩ (n - m) 32 rfl (T.take (n - m)) (by rw [List.length_take, HTL.out]; omega) (new_taken w4 T _ _) (by omega) (by have := hb4'.size; simp; omega) ?_))
        intro A5 c5 w5 hr5 hb5 hk5
        have hk5' : Hid (w5.heap[w.heap.size]? = some (.cells (bv key).toArray 23 (0, 0))) := hk5 _ _ _ (by decide) ((Below.heap_alloc _ _ _ hsk4).trans hk4.out)
        have hT5 : Hid (w5.heap[w4.heap.size]? = some (.cells (bv T).toArray 23 (0, 0))) := hk5 _ _ _ (by decide) (heap_alloc_new _ _)
        have hb5' : Below w.heap.size w w5 := hb5 w.heap.size w (by omega) (hb4'.alloc hb4'.size _)
        clear hb5 hk5 hr4 hk4 hb4'
        go_wp2
        go_roundw
        case rel =>
          refine ⟨j + 1, n, A5, c5, by go_num, rfl, by show _ = _; have := hm.out; omega, by omega, by omega, ?_, .inr ⟨w4.heap.size, rfl, by rw [HT.out, HTL.out], by rw [HT.out]; exact hT5.out⟩, hk5', hb5'⟩
          rw [← okm_step key info T n j (n - m) HT.out hm2 (by have := hm.out; omega)]
          exact hr5
        case measure => simp [lenOf]; omega
      · have hq2 : 32 ≤ n - m := by omega
        clear hm3
        go_wp2_with (first
        | ((with_reducible refine wpList_store_row rfl 23 (.tmp 11) (.tmp 33) rfl w4.heap.size (bv T).toArray rfl rfl 23 _ (heap_alloc_new _ _) (by rw [HTS.out]; kernel_rfl) (by rw [HTS.out]; exact HZ3.out) (all_oneCell_toArray (bv_one _)) ?_); rw [World.setRow_alloc_new])
        | (at_builtin; refine wp_append_but _ rfl (.tmp 35) (.tmp 42) 24 rfl 5 Tryd.underlying24 Tryd.infoByte (w.heap.size + 1) A2 m c2 _ rfl (hr4.alloc _) ⟨w4.heap.size, 0, none⟩ 32 32 rfl (T.take (32)) (by rw [List.length_take, HTL.out]; omega) (new_taken w4 T _ _) (by omega) (by have := hb4'.size; simp; omega) ?_))
        intro A5 c5 w5 hr5 hb5 hk5
        have hk5' : Hid (w5.heap[w.heap.size]? = some (.cells (bv key).toArray 23 (0, 0))) := hk5 _ _ _ (by decide) ((Below.heap_alloc _ _ _ hsk4).trans hk4.out)
        have hT5 : Hid (w5.heap[w4.heap.size]? = some (.cells (bv T).toArray 23 (0, 0))) := hk5 _ _ _ (by decide) (heap_alloc_new _ _)
        have hb5' : Below w.heap.size w w5 := hb5 w.heap.size w (by omega) (hb4'.alloc hb4'.size _)
        clear hb5 hk5 hr4 hk4 hb4'
        go_wp2
        go_roundw
        case rel =>
          refine ⟨j + 1, m + (32), A5, c5, by go_num, rfl, by show _ = _; have := hm.out; omega, by omega, by omega, ?_, .inr ⟨w4.heap.size, rfl, by rw [HT.out, HTL.out], by rw [HT.out]; exact hT5.out⟩, hk5', hb5'⟩
          rw [← okm_step key info T n j (32) HT.out hm2 (by have := hm.out; omega)]
          exact hr5
        case measure => simp [lenOf]; omega
    · have HE := Lib.hid (show m = n by omega)
      go_wp2
      go_ret2
      have hmm := hm.out
      have e1 : m = n := HE.out
      subst e1
      refine ⟨A2, c2, rfl, ?_, hb⟩
      have h1 : (okm key info j).take m = expandOf key info m := by
        rw [expandOf]
        exact okm_more key info m ((m + 31) / 32) j (by omega) (by omega)
      rw [← h1]
      exact hres.base_le (by omega)
end Go.Proofs.YtmgamjbifffchaaDoor
