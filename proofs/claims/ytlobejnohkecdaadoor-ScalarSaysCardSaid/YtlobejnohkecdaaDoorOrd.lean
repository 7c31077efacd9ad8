/-
  The word of L, as a literal of 32 bytes. No statement is proved here. Conditions: none.
-/
import Derived.Test.YtlobejnohkecdaaDoorScS
namespace Go.Proofs.YtlobejnohkecdaaDoor
open Go.RowKit

/-- L's word. -/
def ordW : List UInt8 := [237, 211, 245, 92, 26, 99, 18, 88, 214, 156, 247, 162, 222, 249, 222, 20, 0, 0, 0, 0, 0, 0, 0, 0, 0, 0, 0, 0, 0, 0, 0, 16]
theorem ordW_len : ordW.length = 32 := rfl
theorem ln_ordW : ln ordW = FL := by decide +kernel
theorem built_ord : Tryd.prog.built 24 [(0, .int .u8 237), (1, .int .u8 211), (2, .int .u8 245), (3, .int .u8 92), (4, .int .u8 26), (5, .int .u8 99), (6, .int .u8 18), (7, .int .u8 88), (8, .int .u8 214), (9, .int .u8 156), (10, .int .u8 247), (11, .int .u8 162), (12, .int .u8 222), (13, .int .u8 249), (14, .int .u8 222), (15, .int .u8 20), (16, .int .u8 0), (17, .int .u8 0), (18, .int .u8 0), (19, .int .u8 0), (20, .int .u8 0), (21, .int .u8 0), (22, .int .u8 0), (23, .int .u8 0), (24, .int .u8 0), (25, .int .u8 0), (26, .int .u8 0), (27, .int .u8 0), (28, .int .u8 0), (29, .int .u8 0), (30, .int .u8 0), (31, .int .u8 16)] = some (bv ordW).toArray := by kernel_rfl
end Go.Proofs.YtlobejnohkecdaaDoor
