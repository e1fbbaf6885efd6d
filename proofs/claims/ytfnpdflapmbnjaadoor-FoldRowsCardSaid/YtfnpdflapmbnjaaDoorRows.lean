/-
  NARROWER THAN 'FOR EVERY INPUT', by the rows' own cells (each row's printed sentence says how): FoldRows: laid · FoldReduces: laid · FoldScans: laid · FoldLast: laid.
  DERIVED. THE GIVEN ROWS OF THIS SEAT. 4 by the template 'for every input the law returns true; each argument reads behind the call as it read before'; 0 by the template 'total and deterministic' (their statements: YtfnpdflapmbnjaaDoorTotals.lean).
  GIVEN WITH THE SEED: the statements are not yours to turn. If you find one false, say at which input.
  Laid BY PROGRAM, IN A SANDBOX (cutbox-rows.mjs): the forced cells as the released guide's own fill.sh prints them over the translation 92c2566ec94787d2… (all of the seat's roots in one cut). By AI agents, Wed Nov 11 2026. No macro, syntax, notation, axiom, sorry.
-/
import Derived.Test.YtfnpdflapmbnjaaDoorChecked
import GoSem.Claim
import GoSem.ClaimJoined
import GoSem.ClaimMapViews
import Derived.JoinedTies
import Derived.KernelRfl
namespace Go.Proofs.YtfnpdflapmbnjaaDoor
/- THE CELL 'sum', in the pinned program and in every row, IS THE sha256 OF THE DUMP (.gsa) THAT YtfnpdflapmbnjaaDoorProg.lean LOADS. Nothing in Lean hashes anything: it is a label: what it is worth is what the hold of that sum in a sandbox is worth. -/
noncomputable def Tryd.pinned : Pinned := { name := "ytfnpdflapmbnjaadoor", sum := "92c2566ec94787d29824b1b267ef64b8adc5bd3de350ffbbdc6db85e50c9dc7d", checked := Tryd.checked }
namespace Rows
def none {H : Type} : Left H := { results := [], args := [] }

/- WHAT THE LISTED PACKAGE-LEVEL VARIABLES READ AS WHEN THE CALL BEGINS. Each datum BY PROGRAM (the guide's laid-datum.mjs) off the statement by which the dump's own 'gosem.cut.vars' lays the variable. In a bare row this is a premise. The card (YtfnpdflapmbnjaaDoorCards.lean) ties it to the program's text. -/
def laid_riffle_scalar_traits {H : Type} : DataW H := .agg [.agg [.lit (.bool false), .lit (.bool false), .lit (.bool false), .lit (.int .i64 0), .lit (.bool false), .lit (.bool false)], .agg [.lit (.bool true), .lit (.bool true), .lit (.bool true), .lit (.int .i64 0), .lit (.bool true), .lit (.bool false)], .agg [.lit (.bool true), .lit (.bool true), .lit (.bool true), .lit (.int .i64 0), .lit (.bool false), .lit (.bool false)], .agg [.lit (.bool true), .lit (.bool true), .lit (.bool true), .lit (.int .i64 1), .lit (.bool true), .lit (.bool false)], .agg [.lit (.bool true), .lit (.bool true), .lit (.bool true), .lit (.int .i64 1), .lit (.bool false), .lit (.bool false)], .agg [.lit (.bool true), .lit (.bool true), .lit (.bool true), .lit (.int .i64 1), .lit (.bool false), .lit (.bool false)], .agg [.lit (.bool true), .lit (.bool true), .lit (.bool true), .lit (.int .i64 0), .lit (.bool false), .lit (.bool false)], .agg [.lit (.bool false), .lit (.bool true), .lit (.bool true), .lit (.int .i64 (-9223372036854775808)), .lit (.bool true), .lit (.bool true)], .agg [.lit (.bool false), .lit (.bool true), .lit (.bool true), .lit (.int .i64 9223372036854775807), .lit (.bool true), .lit (.bool true)], .agg [.lit (.bool false), .lit (.bool true), .lit (.bool true), .lit (.int .i64 1), .lit (.bool false), .lit (.bool false)], .agg [.lit (.bool false), .lit (.bool true), .lit (.bool true), .lit (.int .i64 0), .lit (.bool false), .lit (.bool false)], .agg [.lit (.bool false), .lit (.bool true), .lit (.bool true), .lit (.int .i64 0), .lit (.bool false), .lit (.bool false)], .agg [.lit (.bool false), .lit (.bool true), .lit (.bool true), .lit (.int .i64 1), .lit (.bool false), .lit (.bool false)], .agg [.lit (.bool false), .lit (.bool true), .lit (.bool true), .lit (.int .i64 0), .lit (.bool false), .lit (.bool false)], .agg [.lit (.bool false), .lit (.bool true), .lit (.bool true), .lit (.int .i64 1), .lit (.bool false), .lit (.bool false)], .agg [.lit (.bool false), .lit (.bool true), .lit (.bool true), .lit (.int .i64 (-1)), .lit (.bool true), .lit (.bool false)], .agg [.lit (.bool false), .lit (.bool true), .lit (.bool true), .lit (.int .i64 0), .lit (.bool true), .lit (.bool false)], .agg [.lit (.bool true), .lit (.bool true), .lit (.bool false), .lit (.int .i64 0), .lit (.bool true), .lit (.bool false)], .agg [.lit (.bool true), .lit (.bool true), .lit (.bool false), .lit (.int .i64 0), .lit (.bool true), .lit (.bool false)], .agg [.lit (.bool true), .lit (.bool false), .lit (.bool false), .lit (.int .i64 0), .lit (.bool false), .lit (.bool false)]]

/-- 'rifflelaw08.FoldRows': WHATEVER THE INPUT: true; the input reads as it did. -/
def foldRowsSpec : ChangeSpec := { name := "foldRows", fn := fun _ => fun
  | [d1, d2] => { results := [.lit (.bool true)], args := [d1, d2] }
  | _ => none }
def foldRowsRow : OpenClaim := { program := "ytfnpdflapmbnjaadoor", sum := "92c2566ec94787d29824b1b267ef64b8adc5bd3de350ffbbdc6db85e50c9dc7d", func := "riffle/rifflelaw08.FoldRows", spec := "foldRows", unfollowed := true, recurses := true, named := ["riffle/scalar.traits"], apart := false, laid := [("riffle/scalar.traits", laid_riffle_scalar_traits)] }
def FoldRowsSaid : Prop := foldRowsRow.holds Tryd.pinned (OpenSpec.ofChange foldRowsSpec)

/-- ITS FALSE NEIGHBOUR: 'it returns false'. Refute it at one input. -/
def foldRowsWrong : ChangeSpec := { name := "foldRows", fn := fun _ => fun
  | [d1, d2] => { results := [.lit (.bool false)], args := [d1, d2] }
  | _ => none }
def FoldRowsWrongFalsely : Prop := foldRowsRow.holds Tryd.pinned (OpenSpec.ofChange foldRowsWrong)

/-- 'rifflelaw08.FoldReduces': WHATEVER THE INPUT: true; the input reads as it did. -/
def foldReducesSpec : ChangeSpec := { name := "foldReduces", fn := fun _ => fun
  | [d1, d2, d3] => { results := [.lit (.bool true)], args := [d1, d2, d3] }
  | _ => none }
def foldReducesRow : OpenClaim := { program := "ytfnpdflapmbnjaadoor", sum := "92c2566ec94787d29824b1b267ef64b8adc5bd3de350ffbbdc6db85e50c9dc7d", func := "riffle/rifflelaw08.FoldReduces", spec := "foldReduces", unfollowed := true, recurses := true, named := ["riffle/scalar.traits"], apart := false, laid := [("riffle/scalar.traits", laid_riffle_scalar_traits)] }
def FoldReducesSaid : Prop := foldReducesRow.holds Tryd.pinned (OpenSpec.ofChange foldReducesSpec)

/-- ITS FALSE NEIGHBOUR: 'it returns false'. Refute it at one input. -/
def foldReducesWrong : ChangeSpec := { name := "foldReduces", fn := fun _ => fun
  | [d1, d2, d3] => { results := [.lit (.bool false)], args := [d1, d2, d3] }
  | _ => none }
def FoldReducesWrongFalsely : Prop := foldReducesRow.holds Tryd.pinned (OpenSpec.ofChange foldReducesWrong)

/-- 'rifflelaw08.FoldScans': WHATEVER THE INPUT: true; the input reads as it did. -/
def foldScansSpec : ChangeSpec := { name := "foldScans", fn := fun _ => fun
  | [d1, d2, d3] => { results := [.lit (.bool true)], args := [d1, d2, d3] }
  | _ => none }
def foldScansRow : OpenClaim := { program := "ytfnpdflapmbnjaadoor", sum := "92c2566ec94787d29824b1b267ef64b8adc5bd3de350ffbbdc6db85e50c9dc7d", func := "riffle/rifflelaw08.FoldScans", spec := "foldScans", unfollowed := true, recurses := true, named := ["riffle/scalar.traits"], apart := false, laid := [("riffle/scalar.traits", laid_riffle_scalar_traits)] }
def FoldScansSaid : Prop := foldScansRow.holds Tryd.pinned (OpenSpec.ofChange foldScansSpec)

/-- ITS FALSE NEIGHBOUR: 'it returns false'. Refute it at one input. -/
def foldScansWrong : ChangeSpec := { name := "foldScans", fn := fun _ => fun
  | [d1, d2, d3] => { results := [.lit (.bool false)], args := [d1, d2, d3] }
  | _ => none }
def FoldScansWrongFalsely : Prop := foldScansRow.holds Tryd.pinned (OpenSpec.ofChange foldScansWrong)

/-- 'rifflelaw08.FoldLast': WHATEVER THE INPUT: true; the input reads as it did. -/
def foldLastSpec : ChangeSpec := { name := "foldLast", fn := fun _ => fun
  | [d1, d2] => { results := [.lit (.bool true)], args := [d1, d2] }
  | _ => none }
def foldLastRow : OpenClaim := { program := "ytfnpdflapmbnjaadoor", sum := "92c2566ec94787d29824b1b267ef64b8adc5bd3de350ffbbdc6db85e50c9dc7d", func := "riffle/rifflelaw08.FoldLast", spec := "foldLast", unfollowed := true, recurses := true, named := ["riffle/scalar.traits"], apart := false, laid := [("riffle/scalar.traits", laid_riffle_scalar_traits)] }
def FoldLastSaid : Prop := foldLastRow.holds Tryd.pinned (OpenSpec.ofChange foldLastSpec)

/-- ITS FALSE NEIGHBOUR: 'it returns false'. Refute it at one input. -/
def foldLastWrong : ChangeSpec := { name := "foldLast", fn := fun _ => fun
  | [d1, d2] => { results := [.lit (.bool false)], args := [d1, d2] }
  | _ => none }
def FoldLastWrongFalsely : Prop := foldLastRow.holds Tryd.pinned (OpenSpec.ofChange foldLastWrong)

/- THE SECOND FORM. 'bulk': how many values and letters a reading holds, each counted each time it is reached (what is shared counts as often as it is met; a slice's spare places count too). A statement '..UptoSaid' is the law's where the arguments, and the package variables that the reading takes, are together of bulk at most 1048576: NARROWER than '..Said'. Prove '..Said' where nothing that the law and all that it calls make is longer than what came in: it says more and counts as full. Else prove '..UptoSaid'. A law counts once. -/
mutual
def uptoBulk {H : Type} : DataW H → Nat
  | .lit (.string bytes) => bytes.length + 1
  | .lit _ => 1
  | .nil => 1
  | .ptr d => uptoBulk d + 1
  | .slice elems spare => uptoBulkAll elems + uptoBulkAll spare + 1
  | .agg parts => uptoBulkAll parts + 1
  | .iface _ d => uptoBulk d + 1
  | .map entries => uptoBulkEntries entries + 1
  | .held _ => 1
def uptoBulkAll {H : Type} : List (DataW H) → Nat
  | [] => 0
  | d :: r => uptoBulk d + uptoBulkAll r
def uptoBulkEntries {H : Type} : List (Lit × DataW H) → Nat
  | [] => 0
  | x :: r => uptoBulkEntry x + uptoBulkEntries r
def uptoBulkEntry {H : Type} : Lit × DataW H → Nat
  | (.string bytes, d) => bytes.length + uptoBulk d + 1
  | (_, d) => uptoBulk d + 1
 end
def uptoSmall : (H : Type) → List (DataW H) → Bool := fun _ ds => decide (uptoBulkAll ds ≤ 1048576)
def OpenSpec.upto (s : _root_.Go.ChangeSpec) : _root_.Go.OpenSpec := { _root_.Go.OpenSpec.ofChange s with cond := some uptoSmall }

/-- 'rifflelaw08.FoldRows', WHERE WHAT IT READS IS OF BULK AT MOST 1048576: true; the input reads as it did. -/
def foldRowsUptoRow : OpenClaim := { program := "ytfnpdflapmbnjaadoor", sum := "92c2566ec94787d29824b1b267ef64b8adc5bd3de350ffbbdc6db85e50c9dc7d", func := "riffle/rifflelaw08.FoldRows", spec := "foldRows", unfollowed := true, recurses := true, named := ["riffle/scalar.traits"], apart := false, laid := [("riffle/scalar.traits", laid_riffle_scalar_traits)], narrowed := true }
def FoldRowsUptoSaid : Prop := foldRowsUptoRow.holds Tryd.pinned (OpenSpec.upto foldRowsSpec)

/-- 'rifflelaw08.FoldReduces', WHERE WHAT IT READS IS OF BULK AT MOST 1048576: true; the input reads as it did. -/
def foldReducesUptoRow : OpenClaim := { program := "ytfnpdflapmbnjaadoor", sum := "92c2566ec94787d29824b1b267ef64b8adc5bd3de350ffbbdc6db85e50c9dc7d", func := "riffle/rifflelaw08.FoldReduces", spec := "foldReduces", unfollowed := true, recurses := true, named := ["riffle/scalar.traits"], apart := false, laid := [("riffle/scalar.traits", laid_riffle_scalar_traits)], narrowed := true }
def FoldReducesUptoSaid : Prop := foldReducesUptoRow.holds Tryd.pinned (OpenSpec.upto foldReducesSpec)

/-- 'rifflelaw08.FoldScans', WHERE WHAT IT READS IS OF BULK AT MOST 1048576: true; the input reads as it did. -/
def foldScansUptoRow : OpenClaim := { program := "ytfnpdflapmbnjaadoor", sum := "92c2566ec94787d29824b1b267ef64b8adc5bd3de350ffbbdc6db85e50c9dc7d", func := "riffle/rifflelaw08.FoldScans", spec := "foldScans", unfollowed := true, recurses := true, named := ["riffle/scalar.traits"], apart := false, laid := [("riffle/scalar.traits", laid_riffle_scalar_traits)], narrowed := true }
def FoldScansUptoSaid : Prop := foldScansUptoRow.holds Tryd.pinned (OpenSpec.upto foldScansSpec)

/-- 'rifflelaw08.FoldLast', WHERE WHAT IT READS IS OF BULK AT MOST 1048576: true; the input reads as it did. -/
def foldLastUptoRow : OpenClaim := { program := "ytfnpdflapmbnjaadoor", sum := "92c2566ec94787d29824b1b267ef64b8adc5bd3de350ffbbdc6db85e50c9dc7d", func := "riffle/rifflelaw08.FoldLast", spec := "foldLast", unfollowed := true, recurses := true, named := ["riffle/scalar.traits"], apart := false, laid := [("riffle/scalar.traits", laid_riffle_scalar_traits)], narrowed := true }
def FoldLastUptoSaid : Prop := foldLastUptoRow.holds Tryd.pinned (OpenSpec.upto foldLastSpec)

end Rows
end Go.Proofs.YtfnpdflapmbnjaaDoor
