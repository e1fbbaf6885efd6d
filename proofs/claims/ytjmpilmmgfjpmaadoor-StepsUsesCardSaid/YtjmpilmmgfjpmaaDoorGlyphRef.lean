/-
  What riffleref02.Signs, Words, place, Of, Named, Sign, Word and Class answer; nothing that was there is written. No condition.
-/
import Derived.Test.YtjmpilmmgfjpmaaDoorGlyphRead
set_option maxRecDepth 100000
namespace Go.Proofs.YtjmpilmmgfjpmaaDoor.Gl
open Go.RowKit
set_option linter.unusedVariables false

def strV (l : List UInt8) : Value := .string ⟨l.toArray⟩
def signA : Array Value := (signs.map strV).toArray
def wordA : Array Value := (ents.map fun e => strV e.2).toArray
end Go.Proofs.YtjmpilmmgfjpmaaDoor.Gl
