/-
  Contract of kdf.Key: a key of a key and of texts. Conditions: the texts are shorter than 2^31 bytes in all; the tables lie as the program lays them.
-/
import Derived.Test.YtmgamjbifffchaaDoorKdfC
import Derived.Lib.AppendStr
namespace Go.Proofs.YtmgamjbifffchaaDoor
open Go.RowKit

/-- A text with its length in two bytes ahead; of several. -/
def told (s : ByteArray) : List UInt8 := [UInt8.ofNat (s.size / 256), UInt8.ofNat s.size] ++ s.data.toList
theorem size_list (s : ByteArray) : s.data.toList.length = s.size := by rw [Array.length_toList]; rfl
theorem told_len (s : ByteArray) : (told s).length = s.size + 2 := by simp [told]
def tolds (ss : List ByteArray) : List UInt8 := (ss.map told).flatten
theorem tolds_snoc {ss : List ByteArray} {k : Nat} {s : ByteArray} (h : ss[k]? = some s) : tolds (ss.take (k + 1)) = tolds (ss.take k) ++ told s := by
  obtain ⟨hk, rfl⟩ := List.getElem?_eq_some_iff.1 h
  rw [tolds, List.take_succ_eq_append_getElem hk, List.map_append, List.flatten_append]
  simp [tolds]
theorem tolds_le (ss : List ByteArray) (k : Nat) : (tolds (ss.take k)).length ≤ (tolds ss).length := by
  have h : tolds ss = tolds (ss.take k) ++ tolds (ss.drop k) := by
    rw [tolds, tolds, tolds, ← List.flatten_append, ← List.map_append, List.take_append_drop]
  rw [h, List.length_append]; omega

theorem Res.none_ (w : World) (base E : Nat) : Res w base E none 0 0 [] := ⟨rfl, .inl ⟨rfl, rfl⟩⟩
/-- append(own, text...). -/
theorem wp_append_str {P : Program} (w : World) {ops : Array Oper} {rest : List Oper} {o : Oper} {a : Act} {Q : Exit → Act → World → Prop} (hgd : o.guard = none) (s x : Operand) (T S : TypeId)
    (ho : o.op = .call { callee := .builtin .append, args := #[s, x], argTypes := #[T, S] }) (E : TypeId) (hT : P.underlying T = some (.slice E)) (hS : P.underlying S = some .string)
    (hI : (P.info? E).map (fun i => (i.zero, i.size, i.bytes)) = some (some (.int .u8 0), 1, 1)) (base : Nat) (A : Option Addr) (n c : Nat) (l : List UInt8) (hs : a.eval s = .slice A n c) (hr : Res w base E A n c l)
    (t : ByteArray) (hx : a.eval x = .string t) (hsz : n + t.size ≤ 140737488355328) (hbase : base ≤ w.heap.size)
    (h : ∀ A' c' w', Res w' base E A' (n + t.size) c' (l ++ t.data.toList) → (∀ B w0, B ≤ base → Below B w0 w → Below B w0 w') → wpList P ops Q rest (a.put o.dst (.slice A' (n + t.size) c')) w') : wpList P ops Q (o :: rest) a w := by
  obtain ⟨i, hi, hz, h1, h2⟩ := info_parts hI
  refine Lib.wpList_append_own_string w hgd s x T S ho base E i hT hS hi hz h1 h2 _ n (bv l) hs hr t hx (by unfold maxLen; omega) hsz hbase ?_
  intro v' w' hown hgr _
  have hown' : w'.ownsRow base E 1 v' (n + t.size) (bv (l ++ t.data.toList)) := by rw [bv_app]; exact hown
  obtain ⟨A', c', rfl, hres⟩ := Res.of v' hown'
  exact h A' c' w' hres fun B w0 hB hb => hb.grown hgr (by omega) fun k hk => by have := World.ownsRow.lt hr k hk; omega

/-- A list of texts that came in. -/
def Txt (w : World) (B : Nat) (A : Option Addr) (ss : List ByteArray) : Prop :=
  ss = [] ∨ ∃ b o, A = some ⟨b, o, none⟩ ∧ b < B ∧ ∀ j s, ss[j]? = some s → w.cell? ⟨b, o + j, none⟩ = some (.string s)
theorem Txt.below {w w' : World} {B : Nat} {A : Option Addr} {ss : List ByteArray} (h : Txt w B A ss) (hb : Below B w w') : Txt w' B A ss := by
  rcases h with h | ⟨b, o, hA, hlt, hc⟩
  · exact .inl h
  · exact .inr ⟨b, o, hA, hlt, fun j s hj => (hb.cell (p := ⟨b, o + j, none⟩) hlt).trans (hc j s hj)⟩
theorem Txt.at_ {w : World} {B : Nat} {A : Option Addr} {ss : List ByteArray} (h : Txt w B A ss) {k : Nat} (hk : k < ss.length) : ∃ b o s, A = some ⟨b, o, none⟩ ∧ b < B ∧ w.cell? ⟨b, o + k, none⟩ = some (.string s) ∧ Hid (ss[k]? = some s) := by
  rcases h with h | ⟨b, o, hA, hlt, hc⟩
  · subst h; simp at hk
  · exact ⟨b, o, _, hA, hlt, hc k _ (List.getElem?_eq_getElem hk), List.getElem?_eq_getElem hk⟩

theorem hi_byte (x : Nat) : ((x : Int) / 256) % 256 = ((UInt8.ofNat (x / 256)).toNat : Int) := by rw [UInt8.toNat_ofNat']; omega
theorem lo_byte (x : Nat) : (x : Int) % 256 = ((UInt8.ofNat x).toNat : Int) := by rw [UInt8.toNat_ofNat']; omega

set_option maxRecDepth 100000 in
set_option maxHeartbeats 1000000 in
theorem key_any (w : World) (key : List UInt8) (A : Option Addr) (ss : List ByteArray) (n c : Nat) (hkey : key.length = 32) (hA : Txt w w.heap.size A ss) (hn : ss.length = n) (hn2 : n ≤ 2147483648) (hbig : (tolds ss).length ≤ 2147483648) (hla : Laid w) :
    Calls Tryd.prog 7 #[.agg (bv key).toArray, .slice A n c] w fun e w' => e = .returned (.agg (bv (expandOf key (tolds ss) 32)).toArray) ∧ Below w.heap.size w w' := by
  have hzw := zero_word
  have HKL := Lib.hid hkey
  have HKS := Lib.hid (show (bv key).toArray.size = 32 by simp [bv_len, hkey])
  have HN := Lib.hid hn
  have HZ3 := Lib.hid (show (bv z32).toArray.size = 32 from rfl)
  clear hkey hn
  have hb2 : Below w.heap.size w ((w.alloc (.cells (bv key).toArray 23)).alloc (.cells (bv z32).toArray 23)) := ((Below.refl _ _).alloc (Nat.le_refl _) _).alloc (by simp) _
  have hk2 := Lib.hid (heap_alloc2_old w (.cells (bv key).toArray 23) (.cells (bv z32).toArray 23))
  have hz2 := Lib.hid (heap_alloc2_new w (.cells (bv key).toArray 23) (.cells (bv z32).toArray 23))
  have hs2 : Hid (((w.alloc (.cells (bv key).toArray 23)).alloc (.cells (bv z32).toArray 23)).heap.size = w.heap.size + 2) := by show _ = _; simp
  have hB2 : Below (w.heap.size + 2) ((w.alloc (.cells (bv key).toArray 23)).alloc (.cells (bv z32).toArray 23)) ((w.alloc (.cells (bv key).toArray 23)).alloc (.cells (bv z32).toArray 23)) := Below.refl _ _
  go_enter Tryd.func7, Tryd.ntmps7
  go_wp2
  generalize hw2 : ((w.alloc (.cells (bv key).toArray 23)).alloc (.cells (bv z32).toArray 23)) = w2 at *
  clear hw2
  go_loopw [5, 14] (fun t i wr => ∃ (k m : Nat) (A2 : Option Addr) (c2 : Nat), k ≤ n ∧ i = .int .i64 (k : Int) ∧ t = .slice A2 m c2 ∧ Hid ((tolds (ss.take k)).length = m) ∧ Res wr (w.heap.size + 2) 5 A2 m c2 (tolds (ss.take k)) ∧ Below (w.heap.size + 2) w2 wr) (fun _ i _ => n - (intOf i).toNat)
  case atStart => exact ⟨0, 0, none, 0, by omega, rfl, rfl, rfl, Res.none_ _ _ _, hB2⟩
  case round =>
    obtain ⟨k, m, A2, c2, hk, rfl, rfl, hm, hres, hB⟩ := hrel
    have hb := hb2.trans (hB.mono (by omega))
    have hsz := hB.size
    have hs2' := hs2.out
    by_cases hlt : k < n
    · obtain ⟨b, o, s, rfl, hbl, hcell, hget⟩ := (hA.below hb).at_ (k := k) (by rw [HN.out]; exact hlt)
      have hml : m + s.size + 2 ≤ 2147483648 := by
        have h1 := tolds_le ss (k + 1)
        rw [tolds_snoc hget.out, List.length_append, told_len, hm.out] at h1
        omega
      clear hs2'
      go_wp2_with (at_builtin; refine wp_append_bytes _ rfl (.tmp 20) (.tmp 26) 24 rfl 5 Tryd.underlying24 Tryd.infoByte (w.heap.size + 2) A2 m c2 _ rfl (hres.alloc _) ⟨wr.heap.size, 0, none⟩ 2 2 rfl [UInt8.ofNat (s.size / 256), UInt8.ofNat s.size] rfl (new_bytes2 _ _ _ _ _ _ (hi_byte s.size) (lo_byte s.size)) (by omega) (by have := hs2.out; simp; omega) ?_)
      intro A3 c3 w3 hr3 hb3
      have hB3 := hb3 (w.heap.size + 2) w2 (Nat.le_refl _) (hB.alloc (by have := hs2.out; omega) _)
      have hsz3 := hB3.size
      clear hb3 hres hcell
      go_wp2_with (at_builtin; refine wp_append_str _ rfl (.tmp 28) (.tmp 29) 24 9 rfl 5 Tryd.underlying24 Tryd.underlying9 Tryd.infoByte (w.heap.size + 2) A3 (m + 2) c3 _ rfl hr3 s rfl (by omega) (by have := hs2.out; omega) ?_)
      intro A4 c4 w4 hr4 hb4
      have hB4 := hb4 (w.heap.size + 2) w2 (Nat.le_refl _) hB3
      clear hb4 hr3 hB3 hsz3
      go_wp2
      go_roundw
      case rel =>
        refine ⟨k + 1, m + 2 + s.size, A4, c4, by omega, by go_num, rfl, ?_, ?_, hB4⟩
        · show _ = _
          rw [tolds_snoc hget.out, List.length_append, told_len, hm.out]; omega
        · rw [tolds_snoc hget.out, told]
          exact hr4
      case measure => simp [intOf]; omega
    · have HK := Lib.hid (show k = n by omega)
      have htk : ss.take k = ss := List.take_of_length_le (by rw [HN.out, HK.out]; exact Nat.le_refl _)
      rw [htk] at hres hm
      have hkr : Hid (wr.heap[w.heap.size]? = some (.cells (bv key).toArray 23 (0, 0))) := (hB.block _ (by omega)).trans hk2.out
      have hzr : Hid (wr.heap[w.heap.size + 1]? = some (.cells (bv z32).toArray 23 (0, 0))) := (hB.block _ (by omega)).trans hz2.out
      have hex := expand_any wr key A2 (tolds ss) m c2 32 HKL.out hres.byt hm.out hres.cap (by have := hm.out; omega) (by omega) (hla.below hla.2.2 hb)
      clear hs2' htk hk2 hz2 hB2 hb2
      go_wp2_with ((with_reducible refine wpList_load_row rfl 23 (.tmp 2) rfl w.heap.size rfl 23 (bv key).toArray (0, 0) _ hkr.out Tryd.underlying23 rfl (by rw [HKS.out]; kernel_rfl) ?_))
      refine hex.mono ?_
      rintro e w3 ⟨A3, c3, rfl, hr3, hb3⟩
      clear hex
      obtain ⟨X, hX⟩ : ∃ X, X = expandOf key (tolds ss) 32 := ⟨_, rfl⟩
      rw [← hX] at hr3
      have hXl : X.length = 32 := by rw [hX]; exact expandOf_len _ _ _
      have HX := Lib.hid hX
      have HXL := Lib.hid hXl
      have HXS := Lib.hid (show (bv X).toArray.size = 32 by simp [bv_len, hXl])
      have hz3 : Hid (w3.heap[w.heap.size + 1]? = some (.cells (bv z32).toArray 23 (0, 0))) := (hb3.block _ (Array.getElem?_eq_some_iff.1 hzr.out).1).trans hzr.out
      have hb3' := below_next hb hb.size hb3
      have hw4 : Below w3.heap.size w3 (w3.alloc (.cells (bv z32).toArray 23)) := (Below.refl _ _).alloc (Nat.le_refl _) _
      have hg4 := Lib.hid (heap_alloc_new w3 (.cells (bv z32).toArray 23))
      have hcut := cut_all Tryd.underlying23 Tryd.sizeByte w3.heap.size 0 (by decide)
      have HZL := Lib.hid (show (bv z32).length = 32 from rfl)
      have hz3l := (Array.getElem?_eq_some_iff.1 hz3.out).1
      clear hX hXl hb3 hb hkr hzr hres hB
      go_wp2_with (with_reducible refine wpList_copy_splice rfl (.tmp 38) (.tmp 39) 24 24 rfl 5 Tryd.underlying24 Tryd.sizeByte (some ⟨w3.heap.size, 0, none⟩) A3 32 32 32 c3 rfl rfl w3.heap.size 0 (bv z32) 23 hg4.out (bv X) (by rw [bv_len, HXL.out]; decide) ((hr3.byt.below hw4).src _ _ rfl) (by rw [bv_len, HXL.out, HZL.out]; omega) (bv_one _) w3.heap.size _ (Below.refl _ _) (Nat.le_refl _) ?_)
      intro w5 hg5 hb5
      have hX5 : Hid (w5.heap[w3.heap.size]? = some (.cells (bv X).toArray 23 (0, 0))) := by
        have h1 := hg5.out
        have h2 : splice (bv z32) 0 (bv X) = bv X := by
          rw [splice, List.take_zero, List.nil_append, Nat.zero_add, List.drop_eq_nil_of_le (by rw [bv_len X, HXL.out, HZL.out]; exact Nat.le_refl _), List.append_nil]
        rw [h2] at h1
        exact h1
      have hz5 : Hid (w5.heap[w.heap.size + 1]? = some (.cells (bv z32).toArray 23 (0, 0))) := (hb5.block _ hz3l).trans ((Below.heap_alloc _ _ _ hz3l).trans hz3.out)
      have hb6 : Below w.heap.size w w5 := (hb3'.alloc hb3'.size _).trans (hb5.mono hb3'.size)
      clear hg5 hb5 hg4 hw4 hr3 hz3 hb3'
      go_wp2_with (first
        | (with_reducible refine wpList_load_row rfl 23 (.tmp 11) rfl w3.heap.size rfl 23 (bv X).toArray (0, 0) _ hX5.out Tryd.underlying23 rfl (by rw [HXS.out]; kernel_rfl) ?_)
        | (with_reducible refine wpList_store_row rfl 23 (.tmp 4) (.tmp 41) rfl (w.heap.size + 1) (bv X).toArray rfl rfl 23 _ hz5.out (by rw [HXS.out]; kernel_rfl) (by rw [HXS.out]; exact HZ3.out) (all_oneCell_toArray (bv_one _)) ?_))
      refine bodyPost_ret (v := .agg (bv X).toArray) (results_cell_row Tryd.results7 _ _ (w.heap.size + 1) 23 _ (0, 0) _ rfl (setRow_heap _ _ _ _ _ _ hz5.out) Tryd.underlying23 rfl (by rw [HXS.out]; kernel_rfl)) rfl ⟨by rw [HX.out], below_setRow hb6 (by omega) _⟩
end Go.Proofs.YtmgamjbifffchaaDoor
