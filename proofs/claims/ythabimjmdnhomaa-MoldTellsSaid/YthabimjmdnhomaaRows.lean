/-
  No cell of these rows narrows 'for every input' (looked for: loops, veiled, ifaces, maps, wideKeys, modest, calm, conditions, laid).
  DERIVED. THE GIVEN ROWS OF THIS SEAT. 4 by the template 'for every input the law returns true; each argument reads behind the call as it read before'; 0 by the template 'total and deterministic' (their statements: YthabimjmdnhomaaTotals.lean).
  GIVEN WITH THE SEED: the statements are not yours to turn. If you find one false, say at which input.
  Laid BY PROGRAM, IN A SANDBOX (cutbox-rows.mjs): the forced cells as the released guide's own fill.sh prints them over the translation 885a0a82910ada4d… (all of the seat's roots in one cut). By AI agents, Wed Nov 11 2026. No macro, syntax, notation, axiom, sorry.
-/
import Derived.Test.YthabimjmdnhomaaChecked
import GoSem.Claim
import GoSem.ClaimJoined
import GoSem.ClaimMapViews
import Derived.JoinedTies
import Derived.KernelRfl
namespace Go.Proofs.Ythabimjmdnhomaa
/- THE CELL 'sum', in the pinned program and in every row, IS THE sha256 OF THE DUMP (.gsa) THAT YthabimjmdnhomaaProg.lean LOADS. Nothing in Lean hashes anything: it is a label: what it is worth is what the hold of that sum in a sandbox is worth. -/
noncomputable def Try.pinned : Pinned := { name := "ythabimjmdnhomaa", sum := "885a0a82910ada4d4044b6d2b1339f62adff7e3458af9c87c555a2232f3966db", checked := Try.checked }
namespace Rows
def none {H : Type} : Left H := { results := [], args := [] }

/-- 'rifflelaw06.MoldTells': WHATEVER THE INPUT: true; the input reads as it did. -/
def moldTellsSpec : ChangeSpec := { name := "moldTells", fn := fun _ => fun
  | [d] => { results := [.lit (.bool true)], args := [d] }
  | _ => none }
def moldTellsRow : OpenClaim := { program := "ythabimjmdnhomaa", sum := "885a0a82910ada4d4044b6d2b1339f62adff7e3458af9c87c555a2232f3966db", func := "riffle/rifflelaw06.MoldTells", spec := "moldTells", unfollowed := true, recurses := true, apart := false }
def MoldTellsSaid : Prop := moldTellsRow.holds Try.pinned (OpenSpec.ofChange moldTellsSpec)

/-- ITS FALSE NEIGHBOUR: 'it returns false'. Refute it at one input. -/
def moldTellsWrong : ChangeSpec := { name := "moldTells", fn := fun _ => fun
  | [d] => { results := [.lit (.bool false)], args := [d] }
  | _ => none }
def MoldTellsWrongFalsely : Prop := moldTellsRow.holds Try.pinned (OpenSpec.ofChange moldTellsWrong)

/-- 'rifflelaw06.MoldReshapes': WHATEVER THE INPUT: true; the input reads as it did. -/
def moldReshapesSpec : ChangeSpec := { name := "moldReshapes", fn := fun _ => fun
  | [d1, d2] => { results := [.lit (.bool true)], args := [d1, d2] }
  | _ => none }
def moldReshapesRow : OpenClaim := { program := "ythabimjmdnhomaa", sum := "885a0a82910ada4d4044b6d2b1339f62adff7e3458af9c87c555a2232f3966db", func := "riffle/rifflelaw06.MoldReshapes", spec := "moldReshapes", unfollowed := true, recurses := true, apart := false }
def MoldReshapesSaid : Prop := moldReshapesRow.holds Try.pinned (OpenSpec.ofChange moldReshapesSpec)

/-- ITS FALSE NEIGHBOUR: 'it returns false'. Refute it at one input. -/
def moldReshapesWrong : ChangeSpec := { name := "moldReshapes", fn := fun _ => fun
  | [d1, d2] => { results := [.lit (.bool false)], args := [d1, d2] }
  | _ => none }
def MoldReshapesWrongFalsely : Prop := moldReshapesRow.holds Try.pinned (OpenSpec.ofChange moldReshapesWrong)

/-- 'rifflelaw06.MoldCopies': WHATEVER THE INPUT: true; the input reads as it did. -/
def moldCopiesSpec : ChangeSpec := { name := "moldCopies", fn := fun _ => fun
  | [d1, d2, d3] => { results := [.lit (.bool true)], args := [d1, d2, d3] }
  | _ => none }
def moldCopiesRow : OpenClaim := { program := "ythabimjmdnhomaa", sum := "885a0a82910ada4d4044b6d2b1339f62adff7e3458af9c87c555a2232f3966db", func := "riffle/rifflelaw06.MoldCopies", spec := "moldCopies", unfollowed := true, recurses := true, apart := false }
def MoldCopiesSaid : Prop := moldCopiesRow.holds Try.pinned (OpenSpec.ofChange moldCopiesSpec)

/-- ITS FALSE NEIGHBOUR: 'it returns false'. Refute it at one input. -/
def moldCopiesWrong : ChangeSpec := { name := "moldCopies", fn := fun _ => fun
  | [d1, d2, d3] => { results := [.lit (.bool false)], args := [d1, d2, d3] }
  | _ => none }
def MoldCopiesWrongFalsely : Prop := moldCopiesRow.holds Try.pinned (OpenSpec.ofChange moldCopiesWrong)

/-- 'rifflelaw06.MoldBack': WHATEVER THE INPUT: true; the input reads as it did. -/
def moldBackSpec : ChangeSpec := { name := "moldBack", fn := fun _ => fun
  | [d1, d2, d3] => { results := [.lit (.bool true)], args := [d1, d2, d3] }
  | _ => none }
def moldBackRow : OpenClaim := { program := "ythabimjmdnhomaa", sum := "885a0a82910ada4d4044b6d2b1339f62adff7e3458af9c87c555a2232f3966db", func := "riffle/rifflelaw06.MoldBack", spec := "moldBack", unfollowed := true, recurses := true, apart := false }
def MoldBackSaid : Prop := moldBackRow.holds Try.pinned (OpenSpec.ofChange moldBackSpec)

/-- ITS FALSE NEIGHBOUR: 'it returns false'. Refute it at one input. -/
def moldBackWrong : ChangeSpec := { name := "moldBack", fn := fun _ => fun
  | [d1, d2, d3] => { results := [.lit (.bool false)], args := [d1, d2, d3] }
  | _ => none }
def MoldBackWrongFalsely : Prop := moldBackRow.holds Try.pinned (OpenSpec.ofChange moldBackWrong)

/- THE SECOND FORM. 'bulk': how many values and letters a reading holds, each counted each time it is reached (what is shared counts as often as it is met; a slice's spare places count too). A statement '..UptoSaid' is the law's where the arguments, and the package variables that the reading takes, are together of bulk at most 1048576: NARROWER than '..Said'. Prove '..Said' where nothing that the law and all that it calls make is longer than what came in: it says more and counts as full. Else prove '..UptoSaid'. A law counts once. -/
mutual
def uptoBulk {H : Type} : DataW H → Nat
  | .lit (.string bytes) => bytes.length + 1
  | .lit _ => 1
  | .nil => 1
  | .ptr d => uptoBulk d + 1
  | .slice elems spare => uptoBulkAll elems + uptoBulkAll spare + 1
  | .agg parts => uptoBulkAll parts + 1
  | .iface _ d => uptoBulk d + 1
  | .map entries => uptoBulkEntries entries + 1
  | .held _ => 1
def uptoBulkAll {H : Type} : List (DataW H) → Nat
  | [] => 0
  | d :: r => uptoBulk d + uptoBulkAll r
def uptoBulkEntries {H : Type} : List (Lit × DataW H) → Nat
  | [] => 0
  | x :: r => uptoBulkEntry x + uptoBulkEntries r
def uptoBulkEntry {H : Type} : Lit × DataW H → Nat
  | (.string bytes, d) => bytes.length + uptoBulk d + 1
  | (_, d) => uptoBulk d + 1
 end
def uptoSmall : (H : Type) → List (DataW H) → Bool := fun _ ds => decide (uptoBulkAll ds ≤ 1048576)
def OpenSpec.upto (s : _root_.Go.ChangeSpec) : _root_.Go.OpenSpec := { _root_.Go.OpenSpec.ofChange s with cond := some uptoSmall }

/-- 'rifflelaw06.MoldTells', WHERE WHAT IT READS IS OF BULK AT MOST 1048576: true; the input reads as it did. -/
def moldTellsUptoRow : OpenClaim := { program := "ythabimjmdnhomaa", sum := "885a0a82910ada4d4044b6d2b1339f62adff7e3458af9c87c555a2232f3966db", func := "riffle/rifflelaw06.MoldTells", spec := "moldTells", unfollowed := true, recurses := true, apart := false, narrowed := true }
def MoldTellsUptoSaid : Prop := moldTellsUptoRow.holds Try.pinned (OpenSpec.upto moldTellsSpec)

/-- 'rifflelaw06.MoldReshapes', WHERE WHAT IT READS IS OF BULK AT MOST 1048576: true; the input reads as it did. -/
def moldReshapesUptoRow : OpenClaim := { program := "ythabimjmdnhomaa", sum := "885a0a82910ada4d4044b6d2b1339f62adff7e3458af9c87c555a2232f3966db", func := "riffle/rifflelaw06.MoldReshapes", spec := "moldReshapes", unfollowed := true, recurses := true, apart := false, narrowed := true }
def MoldReshapesUptoSaid : Prop := moldReshapesUptoRow.holds Try.pinned (OpenSpec.upto moldReshapesSpec)

/-- 'rifflelaw06.MoldCopies', WHERE WHAT IT READS IS OF BULK AT MOST 1048576: true; the input reads as it did. -/
def moldCopiesUptoRow : OpenClaim := { program := "ythabimjmdnhomaa", sum := "885a0a82910ada4d4044b6d2b1339f62adff7e3458af9c87c555a2232f3966db", func := "riffle/rifflelaw06.MoldCopies", spec := "moldCopies", unfollowed := true, recurses := true, apart := false, narrowed := true }
def MoldCopiesUptoSaid : Prop := moldCopiesUptoRow.holds Try.pinned (OpenSpec.upto moldCopiesSpec)

/-- 'rifflelaw06.MoldBack', WHERE WHAT IT READS IS OF BULK AT MOST 1048576: true; the input reads as it did. -/
def moldBackUptoRow : OpenClaim := { program := "ythabimjmdnhomaa", sum := "885a0a82910ada4d4044b6d2b1339f62adff7e3458af9c87c555a2232f3966db", func := "riffle/rifflelaw06.MoldBack", spec := "moldBack", unfollowed := true, recurses := true, apart := false, narrowed := true }
def MoldBackUptoSaid : Prop := moldBackUptoRow.holds Try.pinned (OpenSpec.upto moldBackSpec)

end Rows
end Go.Proofs.Ythabimjmdnhomaa
