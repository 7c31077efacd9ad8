/-
  Contracts of know's Can, of law 18's same and has. No statement is proved here. Conditions: fewer than 2^48 things, known ones.
-/
import Derived.Test.YtknmccpoheekmaaKnA
import Derived.Test.YtknmccpoheekmaaKnI
import Derived.Test.YtknmccpoheekmaaKnE
namespace Go.Proofs.Ytknmccpoheekmaa
open Go.RowKit

set_option maxRecDepth 100000 in
theorem kcan_any {w : World} {A A2 : Option Addr} {t : List Th} {known : List Int} {n m : Nat} (c c2 : Nat) (ht : ThP w w.heap.size A t) (hl : t.length = n) (hn : n ≤ 281474976710656) (h2 : InP w w.heap.size A2 known) (hm : known.length = m) (hmm : m ≤ 281474976710656) (x : Int) :
    Calls Try.prog 13 #[.slice A n c, .int .i64 x, .slice A2 m c2] w fun e w' => ∃ l, e = .returned (.bool (decide (x ∈ l))) ∧ Vlt (AllIs t known l) ∧ Below w.heap.size w w' := by
  have DA := vlt (kall_any c c2 ht hl hn h2 hm hmm)
  have HM := vlt hl
  clear ht hl h2 hm
  go_enter Try.func13, Try.ntmps13
  go_wp2_with (first
    | (go_at_call 11; refine DA.out.mono ?_; rintro e w1 ⟨A1, c1, l, rfl, hall, hi1, hb1⟩; have hfew := all_few hall.out; obtain ⟨o, ho⟩ : ∃ o, decide (x ∈ l) = o := ⟨_, rfl⟩; have VC := vlt (containsI_any c1 hi1 rfl (by omega) x ho); have HO := vlt ho; clear DA ho)
    | (go_at_call 26; refine VC.out.mono ?_; rintro e w2 ⟨rfl, hb2⟩; clear VC))
  go_ret
  exact ⟨l, by rw [HO.out]; rfl, hall, below_next hb1 hb1.size hb2⟩
end Go.Proofs.Ytknmccpoheekmaa
