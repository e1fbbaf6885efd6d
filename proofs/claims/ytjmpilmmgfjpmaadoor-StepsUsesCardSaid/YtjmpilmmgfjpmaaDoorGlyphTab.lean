/-
  What glyph.table answers: 44 entries, each a sign and a word, by code; nothing that was there is written. No condition.
-/
import Derived.Test.YtjmpilmmgfjpmaaDoorProg
import Derived.WalkKit
import Derived.WalkSpells
import Derived.Lib.Hide
import Derived.Deep.WholeRow
import Derived.Deep.Draws
set_option maxRecDepth 100000
namespace Go.Proofs.YtjmpilmmgfjpmaaDoor.Gl
open Go.RowKit
set_option linter.unusedVariables false

/-- The signs and the words, by code. -/
def ents : List (Int × List UInt8) := [(0, []), (43, []), (45, []), (215, [109, 117, 108]), (247, [100, 105, 118]), (8902, [112, 111, 119]), (124, []), (8968, [109, 97, 120]), (8970, [109, 105, 110]), (61, []), (8800, [110, 101]), (60, []), (8804, [108, 101]), (62, []), (8805, [103, 101]), (8743, [97, 110, 100]), (8744, [111, 114]), (8867, [108, 101, 102, 116]), (8866, [114, 105, 103, 104, 116]), (126, []), (9076, [114, 104, 111]), (44, []), (9021, [114, 101, 118]), (8854, [102, 108, 105, 112]), (9033, [116, 117, 114, 110]), (8593, [116, 97, 107, 101]), (8595, [100, 114, 111, 112]), (9075, [105, 111, 116, 97]), (8802, [116, 97, 108, 108, 121]), (9031, [112, 114, 101, 118]), (9032, [110, 101, 120, 116]), (47, []), (9023, [100, 111, 119, 110]), (92, []), (9024, [114, 117, 110]), (9018, [110, 101, 97, 114]), (46, []), (8728, [106, 111, 116]), (9064, [115, 119, 97, 112]), (40, []), (41, []), (8592, [105, 115]), (58, []), (8900, [116, 104, 101, 110])]
def entCells (e : Int × List UInt8) : List Value := [.int .i32 e.1, .string ⟨e.2.toArray⟩]
def tabA : Array Value := (ents.flatMap entCells).toArray
def zeroA : Array Value := (List.replicate 44 [Value.int .i32 0, Value.string ByteArray.empty]).flatten.toArray
theorem sizeZero : zeroA.size = tabA.size := by kernel_rfl
theorem oneTab : tabA.all (·.oneCell') = true := by kernel_rfl

def tabParts : List (Nat × Value) := (ents.zipIdx.drop 1).map fun (e, i) => (i, .agg (entCells e).toArray)
def Marked (p : Prop) : Prop := p
end Go.Proofs.YtjmpilmmgfjpmaaDoor.Gl
