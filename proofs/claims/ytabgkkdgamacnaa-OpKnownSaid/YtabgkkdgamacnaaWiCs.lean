/-
  Bytes turned into a text that has a name. No statement is proved here. Conditions: none.
-/
import Derived.Test.YtabgkkdgamacnaaWiC
namespace Go.Proofs.Ytabgkkdgamacnaa
open Go.RowKit

theorem conv_as {w : World} {A : Option Addr} {l : List UInt8} {s : ByteArray} (hs : s = ⟨l.toArray⟩) (n c : Nat) (h : Byt w w.heap.size A l) (hn : l.length = n) : (convert 29 9 (.slice A n c)).run Try.prog w = .ok (.string s) w := by
  rw [hs]; exact conv_now n c h hn
theorem text_of {P Q : List UInt8} {s u : ByteArray} (hs : s = ⟨P.toArray⟩) (hu : u = ⟨Q.toArray⟩) : (s.toList = u.toList) = (P = Q) := by
  subst hs hu
  rw [ByteArray.toList_eq, ByteArray.toList_eq]
end Go.Proofs.Ytabgkkdgamacnaa
