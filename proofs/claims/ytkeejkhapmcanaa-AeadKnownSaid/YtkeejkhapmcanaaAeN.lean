/-
  RFC 8439's sentence, sealed: reckoned by the kernel. No statement is proved here. Conditions: none.
-/
import Derived.Test.YtkeejkhapmcanaaPkF
import Derived.Test.YtkeejkhapmcanaaPkC
namespace Go.Proofs.Ytkeejkhapmcanaa
open Go.RowKit

def sunKey : List UInt8 := [128, 129, 130, 131, 132, 133, 134, 135, 136, 137, 138, 139, 140, 141, 142, 143, 144, 145, 146, 147, 148, 149, 150, 151, 152, 153, 154, 155, 156, 157, 158, 159]
def sunNonce : List UInt8 := [7, 0, 0, 0, 64, 65, 66, 67, 68, 69, 70, 71]
def sunBeside : List UInt8 := [80, 81, 82, 83, 192, 193, 194, 195, 196, 197, 198, 199]
def sunPlain : List UInt8 := [76, 97, 100, 105, 101, 115, 32, 97, 110, 100, 32, 71, 101, 110, 116, 108, 101, 109, 101, 110, 32, 111, 102, 32, 116, 104, 101, 32, 99, 108, 97, 115, 115, 32, 111, 102, 32, 39, 57, 57, 58, 32, 73, 102, 32, 73, 32, 99, 111, 117, 108, 100, 32, 111, 102, 102, 101, 114, 32, 121, 111, 117, 32, 111, 110, 108, 121, 32, 111, 110, 101, 32, 116, 105, 112, 32, 102, 111, 114, 32, 116, 104, 101, 32, 102, 117, 116, 117, 114, 101, 44, 32, 115, 117, 110, 115, 99, 114, 101, 101, 110, 32, 119, 111, 117, 108, 100, 32, 98, 101, 32, 105, 116, 46]
def sunSeal : List UInt8 := [211, 26, 141, 52, 100, 142, 96, 219, 123, 134, 175, 188, 83, 239, 126, 194, 164, 173, 237, 81, 41, 110, 8, 254, 169, 226, 181, 167, 54, 238, 98, 214, 61, 190, 164, 94, 140, 169, 103, 18, 130, 250, 251, 105, 218, 146, 114, 139, 26, 113, 222, 10, 158, 6, 11, 41, 5, 214, 165, 182, 126, 205, 59, 54, 146, 221, 189, 127, 45, 119, 139, 140, 152, 3, 174, 227, 40, 9, 27, 88, 250, 179, 36, 228, 250, 214, 117, 148, 85, 133, 128, 139, 72, 49, 215, 188, 63, 244, 222, 240, 142, 75, 122, 157, 229, 118, 210, 101, 134, 206, 198, 75, 97, 22, 26, 225, 11, 89, 79, 9, 226, 106, 126, 144, 46, 203, 208, 96, 6, 145]
theorem sun_known : sealOf sunKey sunNonce sunPlain sunBeside = sunSeal := by decide +kernel
theorem sun_hex1 : hexd (sunSeal.take 16) = [100, 51, 49, 97, 56, 100, 51, 52, 54, 52, 56, 101, 54, 48, 100, 98, 55, 98, 56, 54, 97, 102, 98, 99, 53, 51, 101, 102, 55, 101, 99, 50] := by decide +kernel
theorem sun_hex2 : hexd (sunSeal.drop 114) = [49, 97, 101, 49, 48, 98, 53, 57, 52, 102, 48, 57, 101, 50, 54, 97, 55, 101, 57, 48, 50, 101, 99, 98, 100, 48, 54, 48, 48, 54, 57, 49] := by decide +kernel
theorem sun_key : hexd ((akeyOf sunKey sunNonce).take 4) = [55, 98, 97, 99, 50, 98, 50, 53] := by decide +kernel
def sunDigits : ByteArray := ⟨#[53, 48, 53, 49, 53, 50, 53, 51, 99, 48, 99, 49, 99, 50, 99, 51, 99, 52, 99, 53, 99, 54, 99, 55]⟩
theorem sun_unhex : unhex sunDigits.data.toList = some sunBeside := by decide +kernel
/-- The key's first k bytes, and noughts. -/
def kup (k : Nat) : List UInt8 := (sunKey.take k) ++ List.replicate (32 - k) 0
theorem kup_set : ∀ k : Fin 32, (kup k.val).set k.val (UInt8.ofNat (128 + k.val)) = kup (k.val + 1) := by decide +kernel
theorem kup_len (k : Nat) (h : k ≤ 32) : (kup k).length = 32 := by simp [kup, sunKey]; omega
theorem kup_all : kup 32 = sunKey := by decide +kernel
theorem kup_none : kup 0 = z32 := by decide +kernel
end Go.Proofs.Ytkeejkhapmcanaa
