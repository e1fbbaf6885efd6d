/-
  Plain facts on texts as lists of bytes: digits ahead; and what digits.run answers of any text. Condition: the text is no longer than fits into a machine.
-/
import Derived.Test.YtjmpilmmgfjpmaaDoorProg
import Derived.Test.YtjmpilmmgfjpmaaDoorPkS
import Derived.WalkKit
import Derived.WalkSpells
import Derived.Lib.Hide
import Derived.Lib.OthersKept
import Derived.Laws.RangeAny
set_option maxRecDepth 100000
namespace Go.Proofs.YtjmpilmmgfjpmaaDoor.Dg
open Go.RowKit Go.Proofs.YtjmpilmmgfjpmaaDoor.Sh
set_option linter.unusedVariables false

/-- Is a byte a digit? -/
def isD (c : UInt8) : Bool := decide (48 ≤ c.toNat) && decide (c.toNat ≤ 57)
/-- With how many digits a text begins. -/
def runL (l : List UInt8) : Nat := (l.takeWhile isD).length
theorem runL_le (l : List UInt8) : runL l ≤ l.length := (List.takeWhile_prefix isD).length_le
theorem runL_hit {l : List UInt8} {k : Nat} {c : UInt8} (h : (l.take k).all isD = true) (hc : l[k]? = some c) (hd : isD c = false) : runL l = k := by
  have hk : k < l.length := (List.getElem?_eq_some_iff.1 hc).1
  have e : l = l.take k ++ c :: l.drop (k + 1) := by
    rw [List.getElem?_eq_getElem hk] at hc
    injection hc with hc
    rw [← hc, ← List.drop_eq_getElem_cons hk, List.take_append_drop]
  have h1 : (l.take k ++ c :: l.drop (k + 1)).takeWhile isD = l.take k := by
    rw [List.takeWhile_append_of_pos (fun a ha => List.all_eq_true.1 h a ha), List.takeWhile_cons, hd]
    simp
  unfold runL
  rw [e, h1]
  simp; omega
theorem runL_all {l : List UInt8} (h : l.all isD = true) : runL l = l.length := by
  unfold runL
  congr 1
  have := List.takeWhile_append_of_pos (p := isD) (l₁ := l) (l₂ := []) (fun a ha => List.all_eq_true.1 h a ha)
  simpa using this
theorem all_snoc {l : List UInt8} {k : Nat} {c : UInt8} (h : (l.take k).all isD = true) (hc : l[k]? = some c) (hd : isD c = true) : (l.take (k + 1)).all isD = true := by
  have hk : k < l.length := (List.getElem?_eq_some_iff.1 hc).1
  rw [List.take_succ_eq_append_getElem hk, List.all_append, h]
  have e : l[k] = c := by rw [List.getElem?_eq_getElem hk] at hc; injection hc
  simp [e, hd]
theorem byte_at (s : ByteArray) (k : Nat) (h : k < s.size) : s.data.toList[k]? = some s[k] := by
  rw [List.getElem?_eq_getElem (by simpa using h)]; rfl
end Go.Proofs.YtjmpilmmgfjpmaaDoor.Dg
