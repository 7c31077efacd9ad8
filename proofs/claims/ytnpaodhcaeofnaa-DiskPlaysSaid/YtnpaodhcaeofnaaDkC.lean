/-
  The contract of a disk's file's crash. Conditions: at most 2^40 bytes; torn is not below 0.
-/
import Derived.Test.YtnpaodhcaeofnaaDkB
import Derived.Test.YtnpaodhcaeofnaaPaC
namespace Go.Proofs.Ytnpaodhcaeofnaa
open Go.RowKit

theorem own_base {w : World} {base e n : Nat} {v : Value} {xs : List Value} (h : w.ownsRow base e 1 v n xs) : w.ownsRow 0 e 1 v n xs := by
  refine ⟨h.1, ?_⟩
  rcases h.2 with hn | ⟨g, cap, cur, rfl, hB, r⟩
  · exact .inl hn
  · exact .inr ⟨g, cap, cur, rfl, Nat.zero_le _, r⟩
theorem zsBytes_no_d {keep : Nat} {f : Fl} {i a d : Nat} (h : i < f.gs.length) (hs : stays keep i = false) (ha : a = f.safe.length + (f.gs.take i).flatten.length) (hd : d = f.gs[i].length) :
    zsBytes keep f (i + 1) = (zsBytes keep f i).take a ++ List.replicate d 0 ++ (zsBytes keep f i).drop (a + d) := by
  subst ha hd; exact zsBytes_no keep f i h hs
theorem leftAt_yes_d {keep torn : Nat} {f : Fl} {i a d b v : Nat} (h : i < f.gs.length) (hs : stays keep i = true) (ha : a = f.safe.length + (f.gs.take i).flatten.length) (hd : d = f.gs[i].length) (hb : b = a + d) (hv : v = b - min torn d) : v = leftAt keep torn f (i + 1) := by
  subst ha hd hb hv; exact (leftAt_yes keep torn f i h hs).symm
theorem end_at {f : Fl} {m k a d v : Nat} (hk : k < f.gs.length) (hm : m = f.all.length) (ha : a = f.safe.length + (f.gs.take k).flatten.length) (hd : d = f.gs[k].length) (h : (f.st ++ [m])[k + 1]? = some v) : v = a + d ∧ v ≤ f.all.length := by
  have h0 := flat_at f.gs k hk
  have h3 := flat_take_le f.gs (k + 1)
  have h4 := all_len f
  have h2 : (f.st ++ [m])[k + 1]? = some (a + d) := by
    by_cases hl : k + 1 < f.gs.length
    · rw [List.getElem?_append_left (by rw [st_len]; omega), st_at f (k + 1) hl]
      congr 1; omega
    · have e : k + 1 = f.st.length := by rw [st_len]; omega
      have e2 : (f.gs.take (k + 1)).flatten.length = f.gs.flatten.length := by rw [List.take_of_length_le (by omega)]
      rw [e, List.getElem?_append_right (Nat.le_refl _), Nat.sub_self, List.getElem?_cons_zero]
      congr 1; omega
  rw [h2] at h
  injection h with h
  omega

set_option maxRecDepth 100000 in
set_option maxHeartbeats 1000000 in
theorem crash_any (w : World) (K : Nat → Prop) (g : Nat) (f : Fl) (hf : FileIs w K g f) (keep torn : Nat) (hk : keep < 18446744073709551616) (ht : torn < 9223372036854775808) (hsz : f.all.length ≤ 1099511627776) :
    Calls Try.prog 33 #[.pointer (some ⟨g, 0, none⟩), .int .u64 (keep : Int), .int .i64 (torn : Int)] w fun e w' => e = .returned (.tuple #[]) ∧ FileIs w' (fun i => K i ∨ w.heap.size ≤ i) g (f.fall keep torn) ∧ Off K w w' := by
  have hf0 := hf
  obtain ⟨hlen, hK, A, n, c, A2, n2, c2, hg, h1, h2, h3, h4⟩ := hf
  have hs1 := owns_size h1
  have hs2 := owns_size h2
  rw [bv_len] at hs1
  rw [iv_len, st_len] at hs2
  obtain ⟨c0, c1, f0, f1⟩ := row2 hg
  by_cases hnil : f.gs = []
  · have h0 : n2 = 0 := by rw [hnil] at hs2; simp at hs2; omega
    subst h0
    have HF : FileIs w (fun i => K i ∨ w.heap.size ≤ i) g (f.fall keep torn) := by
      refine ⟨by simp [Fl.fall], ?_⟩
      rw [fall_all, fall_st, fallen_none _ _ _ hnil]
      have h := hf0.2.mono (G := fun i => K i ∨ w.heap.size ≤ i) fun i _ h => .inl h
      have e : f.st = [] := by unfold Fl.st; rw [hnil]; rfl
      rw [e] at h
      exact h
    have HF := Lib.hid HF
    clear hf0 hg h1 h2 h3 h4 hs1 hs2 hlen hsz hnil
    go_enter Try.func33, Try.ntmps33
    go_wp2
    refine bodyPost_ret (results_none rfl _ _ _) rfl ?_
    exact ⟨rfl, HF.out, Off.refl _ _⟩
  · have hpos : 0 < f.gs.length := List.length_pos_iff.2 hnil
    obtain ⟨N, hN⟩ : ∃ N, N = f.gs.length := ⟨_, rfl⟩
    have hn2 : n2 = N := by omega
    subst hn2
    have hn0 : ¬ (n2 : Int) = 0 := by omega
    obtain ⟨b2, v0, rfl, hv0, hc2⟩ := own_ints h2 (k := 0) (by rw [st_len]; exact hpos)
    have hv0' : v0 = f.safe.length := by
      have := st_at f 0 hpos
      rw [hv0] at this
      simpa using this
    have H1 := Lib.hid h1
    have H2 := Lib.hid h2
    have H3 := Lib.hid h3
    have H4 := Lib.hid h4
    have HG := Lib.hid hg
    have HA1 := Lib.hid (owns_ne h1 hg (by decide))
    have HS1 := Lib.hid hs1
    have HN := Lib.hid hN
    have HLEN := Lib.hid hlen
    have HSZ := Lib.hid hsz
    have HV0 := Lib.hid hv0'
    have hn65 : n2 ≤ 65 := by omega
    have hnc2 : n2 ≤ c2 := by omega
    have hn1 : 0 < n2 := by omega
    clear hf0 hg h1 h2 h3 h4 hs1 hs2 hlen hsz hnil hpos hN hv0 hv0'
    go_enter Try.func33, Try.ntmps33
    go_wp2
    go_loopw [6, 27] (fun l i wr => ∃ k v : Nat, i = .int .i64 (k : Int) ∧ k ≤ n2 ∧ l = .int .i64 (v : Int) ∧ Vlt (v = leftAt keep torn f k) ∧ Hid (wr.ownsRow 0 5 1 (.slice A n c) n (bv (zsBytes keep f k))) ∧ Hid (w.grownBy wr (A.map (·.block)))) (fun _ i _ => n2 - (intOf i).toNat)
    case atStart => exact ⟨0, v0, rfl, Nat.zero_le _, rfl, vlt (by rw [leftAt_zero]; exact HV0.out), Lib.hid (by rw [zsBytes_zero]; exact H1.out), Lib.hid ⟨rfl, rfl, rfl, Nat.le_refl _, fun _ _ _ => rfl⟩⟩
    case round =>
      obtain ⟨k, v, rfl, hk2, rfl, hv, hown, hgr⟩ := hrel
      have hrowr := grown_row hgr.out HA1.out HG.out
      have H2r := own_grown H2.out H1.out (by decide) hgr.out
      have hFR : FileR wr K g (zsBytes keep f k) f.st := ⟨hK, A, n, c, _, n2, c2, hrowr, hown.out, H2r, H3.out, H4.out⟩
      obtain ⟨r0, r1, e0, e1⟩ := row2 hrowr
      have hne := HN.out
      by_cases hlt : k < n2
      · obtain ⟨b2', vk, hbb, hvk, hck⟩ := own_ints H2r (k := k) (by rw [st_len]; omega)
        obtain rfl : b2' = b2 := by simp at hbb; exact hbb.symm
        have hend := end_any wr K g _ f.st hFR k (by rw [st_len]; omega) (by rw [st_len]; omega)
        have hkl : k < f.gs.length := by omega
        have hvk3 : vk = f.safe.length + (f.gs.take k).flatten.length := by
          have h := st_at f k hkl
          rw [hvk] at h
          injection h
        obtain ⟨d, hd⟩ : ∃ d, d = f.gs[k].length := ⟨_, rfl⟩
        have HVK := Lib.hid hvk3
        have HD := Lib.hid hd
        have HKL := Lib.hid hkl
        clear hvk3 hd hne hvk hrowr hFR H2r hbb
        go_wp2_with fail
        refine hend.mono ?_
        rintro e w2 ⟨v2, rfl, hv2, rfl⟩
        obtain ⟨hv2', hv2n'⟩ := end_at HKL.out (zsBytes_len keep f k) HVK.out HD.out hv2.out
        have hk65 : k < 65 := by omega
        have hdi : (v2 : Int) - (vk : Int) = (d : Int) := by omega
        have hv2n : v2 ≤ n := by have := HS1.out.1; omega
        have hvk4 : vk ≤ v2 := by omega
        have HV2 := Lib.hid hv2'
        have hnc : n ≤ c := HS1.out.2.2
        have hn40 : n ≤ 1099511627776 := by have := HS1.out.1; have := HSZ.out; omega
        clear hv2 hv2' hend hv2n'
        by_cases hst : stays keep k = true
        · obtain ⟨v3, hv3⟩ : ∃ v3 : Nat, v3 = v2 - min torn d := ⟨_, rfl⟩
          have hmin : (v2 : Int) - (if d < torn then (d : Int) else (torn : Int)) = (v3 : Int) := by
            have := HV2.out
            have := HD.out
            split <;> omega
          have HL3 := vlt (show v3 = leftAt keep torn f (k + 1) by
            exact leftAt_yes_d HKL.out hst HVK.out HD.out HV2.out hv3)
          have HZ3 := Lib.hid (show w2.ownsRow 0 5 1 (.slice A n c) n (bv (zsBytes keep f (k + 1))) by
            rw [zsBytes_yes _ _ _ HKL.out hst]; exact hown.out)
          by_cases hk63 : k ≤ 63
          · have hk63' : (k : Int) ≤ 63 := by omega
            have hbit := bit_low (k := k) hk hk63
            rw [if_pos hst] at hbit
            clear hst hv hv3 hown
            go_wp2
            go_roundw
            case rel => exact ⟨k + 1, v3, by go_num, by omega, by go_num, HL3, HZ3, hgr⟩
            case measure => simp [intOf]; omega
          · have hk63' : ¬ (k : Int) ≤ 63 := by omega
            have hbit := bit_high (k := k) hk (by omega)
            rw [if_pos hst] at hbit
            clear hst hv hv3 hown
            go_wp2
            go_roundw
            case rel => exact ⟨k + 1, v3, by go_num, by omega, by go_num, HL3, HZ3, hgr⟩
            case measure => simp [intOf]; omega
        · have hst' : stays keep k = false := by simpa using hst
          have HL3 := vlt (show v = leftAt keep torn f (k + 1) by
            rw [leftAt_no _ _ _ _ HKL.out hst']; exact hv.out)
          have hcut := run_cut_lh (P := Try.prog) Try.underlying33 Try.sizeByte A n c vk v2 (vk : Int) (v2 : Int) rfl rfl hvk4 (by omega)
          have hclr := clear_own (P := Try.prog) (ty := 0) (s := vk) (d := v2 - vk) (c2 := c - vk) w2 Try.underlying33 Try.zeroByte hown.out (by omega)
          obtain ⟨w3, hrun, hown3, hgr3⟩ := hclr
          generalize hA2 : (if c = vk then A else A.map (·.add vk)) = A2 at hcut hrun
          have HZ3 := Lib.hid (show w3.ownsRow 0 5 1 (.slice A n c) n (bv (zsBytes keep f (k + 1))) by
            rw [zsBytes_no_d HKL.out hst' HVK.out HD.out]
            have e : v2 - vk = d := by have := HV2.out; omega
            rw [e] at hown3; exact hown3)
          have HG3 : Hid (w.grownBy w3 (A.map (·.block))) := Lib.hid ⟨hgr3.os.trans hgr.out.os, hgr3.tape.trans hgr.out.tape, hgr3.output.trans hgr.out.output, Nat.le_trans hgr.out.size hgr3.size, fun i hi hn => (hgr3.block i (Nat.lt_of_lt_of_le hi hgr.out.size) hn).trans (hgr.out.block i hi hn)⟩
          by_cases hk63 : k ≤ 63
          · have hk63' : (k : Int) ≤ 63 := by omega
            have hbit := bit_low (k := k) hk hk63
            rw [if_neg hst] at hbit
            clear hst hst' hv hown hown3 hgr3 hgr hA2
            go_wp2
            go_roundw
            case rel => exact ⟨k + 1, v, by go_num, by omega, by go_num, HL3, HZ3, HG3⟩
            case measure => simp [intOf]; omega
          · have hk63' : ¬ (k : Int) ≤ 63 := by omega
            have hbit := bit_high (k := k) hk (by omega)
            rw [if_neg hst] at hbit
            clear hst hst' hv hown hown3 hgr3 hgr hA2
            go_wp2
            go_roundw
            case rel => exact ⟨k + 1, v, by go_num, by omega, by go_num, HL3, HZ3, HG3⟩
            case measure => simp [intOf]; omega
      · obtain rfl : k = n2 := by omega
        have hvn : v ≤ n := by
          have h6 := leftAt_le keep torn f k
          have h7 := flat_take_le f.gs k
          have h8 := all_len f
          have h9 := HS1.out.1
          have h10 := hv.out
          omega
        have hnc : n ≤ c := HS1.out.2.2
        have hn40 : n ≤ 1099511627776 := by have := HS1.out.1; have := HSZ.out; omega
        have hcut := run_cut_h (P := Try.prog) Try.underlying33 Try.sizeByte A n c v (v : Int) rfl (by omega)
        have hl := hown.out
        have hcl := bclone_any wr A ((zsBytes keep f k).take v) v c (Byt.take (Byt.of_own (own_base hown.out)) v) (by rw [List.length_take, zsBytes_len, HS1.out.1, Nat.min_eq_left hvn]) (by omega)
        have HFA := vlt (show (zsBytes keep f k).take v = fallen keep torn f by rw [fallen_is, hv.out, hne])
        rw [HFA.out] at hcl
        clear hv hl hown hne H2r hFR
        go_wp2_with fail
        refine hcl.mono ?_
        rintro e w2 ⟨A4, c4, rfl, hr4, hb4⟩
        clear hcl hcut
        have hrow2 : w2.heap[g]? = some (.cells #[.slice A n c, .slice (some ⟨b2, 0, none⟩) k c2] 50 (0, 0)) := (hb4.block g (Array.getElem?_eq_some_iff.1 hrowr).1).trans hrowr
        clear r0 r1 e0 e1 hrowr
        obtain ⟨r0, r1, e0, e1⟩ := row2 hrow2
        have hset := world_set_cell (cs := [.slice A n c, .slice (some ⟨b2, 0, none⟩) k c2]) hrow2 0 (.slice A4 v c4)
        have hset2 := world_set_cell hset.out 1 (.slice none 0 0)
        have hoff : Off K w wr := grown_off hgr.out H3.out
        have hoff2 := hoff.next hb4
        have hoff3 := (hoff2.trans (off_set (i := 0) (.slice A4 v c4) hK) fun i h => .inl h).trans (off_set (i := 1) (.slice none 0 0) hK) fun i h => .inl h
        have h40 : w2.ownsRow 0 5 1 (.slice A4 v c4) v (bv (fallen keep torn f)) := own_base hr4
        have h41 := own_set (i := 1) (own_set (i := 0) h40 (owns_ne h40 hrow2 (by decide)) (.slice A4 v c4)) (owns_ne h40 hrow2 (by decide)) (.slice none 0 0)
        have HO := Lib.hid h41
        have HAT : Hid (AtF (fun i => K i ∨ w.heap.size ≤ i) A4) := Lib.hid fun a ha => .inr (by
          subst ha
          have h := (World.ownsRow.lt (show w2.ownsRow wr.heap.size 5 1 (.slice (some a) v c4) v (bv (fallen keep torn f)) from hr4) a.block rfl).1
          exact Nat.le_trans hoff.size h)
        have HGS := Lib.hid hgr.out
        clear hr4 hb4 hoff hoff2 h40 h41 hset
        go_wp2
        go_end0
        refine ⟨rfl, ⟨by simp [Fl.fall], .inl hK, A4, v, c4, none, 0, 0, hset2.out, ?_, ?_, HAT.out, AtF.none_ _⟩, hoff3⟩
        · rw [fall_all]; exact HO.out
        · rw [fall_st]; exact World.ownsRow_nil _ _ _ _
end Go.Proofs.Ytnpaodhcaeofnaa
