/-
  PadKnown: the law's Go text returns true. Conditions: none.
-/
import Derived.Test.YtjidiambjhccoaaPaW
import Derived.Test.YtjidiambjhccoaaPaP
import Derived.Test.YtjidiambjhccoaaPaU
import Derived.Test.YtjidiambjhccoaaByn
namespace Go.Proofs.Ytjidiambjhccoaa
open Go.RowKit

theorem Byt.cell_at {w : World} {B g o : Nat} {l : List UInt8} (h : Byt w B (some ⟨g, o, none⟩) l) (k : Nat) (b : UInt8) (hb : l[k]? = some b) : w.cell? ⟨g, o + k, none⟩ = some (.int .u8 (b.toNat : Int)) := by
  rcases h with h | ⟨g', o', h1, _, h2⟩
  · subst h; simp at hb
  · injection h1 with h1
    injection h1 with h1 h1'
    subst h1 h1'
    exact h2 k b hb

set_option maxRecDepth 100000 in
set_option maxHeartbeats 2000000 in
theorem walk_PadKnown (w : World) : Calls Try.prog 3 #[] w fun e w' => e = .returned (.bool true) ∧ Below w.heap.size w w' := by
  obtain ⟨i0, hi, hz0, hz1, hz2⟩ := info_parts Try.infoByte
  obtain ⟨w1, hrun, _, hb1, _⟩ := make_bytes (P := Try.prog) Try.underlying26 hi hz0 hz1 hz2 65536 65536 65536 65536 rfl rfl (Nat.le_refl _) (by decide) w
  have hmk := fun W => make_bytes (P := Try.prog) Try.underlying26 hi hz0 hz1 hz2 64 64 64 64 rfl rfl (Nat.le_refl _) (by decide) W
  have h1 := bucket_neg w (-1) (by decide)
  have h2 := bucket_over w 65536 (by decide)
  have h3 := bucket_at w 65535 65536 (by decide) (by decide)
  have h4 := pad_over w1 (some ⟨w.heap.size, 0, none⟩) 65536 65536 (by decide)
  have h5 := pad_ok w1 none [] 0 0 Byt.none_ rfl (by decide)
  clear hi hz0 hz1 hz2
  go_enter Try.func3, Try.ntmps3
  go_wp2_with fail
  refine (awake12_any w).mono ?_
  rintro e w0 ⟨rfl, rfl⟩
  go_wp2_with fail
  refine h1.mono ?_
  rintro e w2 ⟨rfl, rfl⟩
  clear h1
  go_wp2_with fail
  refine h2.mono ?_
  rintro e w3 ⟨rfl, rfl⟩
  clear h2
  go_wp2_with fail
  refine h3.mono ?_
  rintro e w4 ⟨rfl, rfl⟩
  clear h3
  go_wp2_with fail
  refine h4.mono ?_
  rintro e w5 ⟨rfl, rfl⟩
  clear h4 hrun
  go_wp2_with fail
  refine h5.mono ?_
  rintro e w6 ⟨s, P, rfl, hs, hP, _, _, _, hr6, hb6⟩
  clear h5
  obtain rfl : s = 64 := hs.out
  have hbw6 := below_next hb1.out hb1.out.size hb6
  have h6 := unpad_no w6 none [] 0 0 Byt.none_ rfl (Nat.le_refl _) (by decide) (fun m _ => mark_none (n := 0) rfl m _)
  have hby := hr6.byt
  have h0 : Vlt (P[0]? = some 128) := vlt (by rw [hP.out]; rfl)
  clear hs hP hr6 hb6
  go_wp2_with fail
  refine h6.mono ?_
  rintro e w7 ⟨rfl, rfl⟩
  clear h6
  obtain ⟨w8, hrun, hg8, hb8, _⟩ := hmk w7
  have h7 := unpad_no w8 (some ⟨w7.heap.size, 0, none⟩) (List.replicate 64 0) 64 64 (byt_row hg8.out) rfl (Nat.le_refl _) (by decide) (fun m _ => mark_none (n := 64) rfl m _)
  have hbw8 := below_next hbw6 hbw6.size hb8.out
  have hcell := (hby.below hb8.out).cell_at 0 128 h0.out
  clear hg8 hmk hby h0 hb8
  go_wp2_with fail
  refine h7.mono ?_
  rintro e w9 ⟨rfl, rfl⟩
  clear h7
  go_wp2
  go_ret
  exact ⟨rfl, hbw8⟩
end Go.Proofs.Ytjidiambjhccoaa
