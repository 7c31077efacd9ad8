/-
  Contract of law 12's awake: it says true. Conditions: none.
-/
import Derived.Test.YtjidiambjhccoaaPaB
namespace Go.Proofs.Ytjidiambjhccoaa
open Go.RowKit

theorem bucket_at (w : World) (n s : Nat) (hn : n < 65536) (hs : bkt n = s) :
    Calls Try.prog 8 #[.int .i64 (n : Int)] w fun e w' => e = .returned (.tuple #[.int .i64 (s : Int), .int .i64 0]) ∧ w' = w := by
  refine (bucket_ok w n hn).mono ?_
  rintro e w' ⟨s', rfl, h, _, _, _, rfl⟩
  rw [h.out, hs]
  exact ⟨rfl, rfl⟩

set_option maxRecDepth 100000 in
theorem awake12_any (w : World) : Calls Try.prog 7 #[] w fun e w' => e = .returned (.bool true) ∧ w' = w := by
  have h1 := bucket_at w 63 64 (by decide) (by decide)
  have h2 := bucket_at w 64 128 (by decide) (by decide)
  go_enter Try.func7, Try.ntmps7
  go_wp2_with fail
  refine h1.mono ?_
  rintro e w1 ⟨rfl, rfl⟩
  clear h1
  go_wp2_with fail
  refine h2.mono ?_
  rintro e w2 ⟨rfl, rfl⟩
  clear h2
  go_wp2
  go_ret
  exact ⟨rfl, rfl⟩
end Go.Proofs.Ytjidiambjhccoaa
