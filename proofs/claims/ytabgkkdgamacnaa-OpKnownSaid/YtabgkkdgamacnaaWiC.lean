/-
  Bytes turned into a text, as a fact of the world now; a reader whose bytes are told in another way. No statement is proved here. Conditions: none.
-/
import Derived.Test.YtabgkkdgamacnaaWiO
namespace Go.Proofs.Ytabgkkdgamacnaa
open Go.RowKit

theorem conv_now {w : World} {A : Option Addr} {l : List UInt8} (n c : Nat) (h : Byt w w.heap.size A l) (hn : l.length = n) : (convert 29 9 (.slice A n c)).run Try.prog w = .ok (.string ⟨l.toArray⟩) w :=
  conv_bytes (P := Try.prog) Try.underlying29 Try.underlying5 Try.underlying9 h n c hn
theorem RdIs.as {w : World} {lo hi g : Nat} {l m : List UInt8} {bad : Bool} (h : RdIs w lo hi g l bad) (e : l = m) : RdIs w lo hi g m bad := e ▸ h

end Go.Proofs.Ytabgkkdgamacnaa
