/-
  NARROWER THAN 'FOR EVERY INPUT', by the rows' own cells (each row's printed sentence says how): StepsOf: laid · StepsUses: laid · StepsRise: laid · StepsSwap: laid.
  DERIVED. THE GIVEN ROWS OF THIS SEAT. 4 by the template 'for every input the law returns true; each argument reads behind the call as it read before'; 0 by the template 'total and deterministic' (their statements: YtjmpilmmgfjpmaaDoorTotals.lean).
  GIVEN WITH THE SEED: the statements are not yours to turn. If you find one false, say at which input.
  Laid BY PROGRAM, IN A SANDBOX (cutbox-rows.mjs): the forced cells as the released guide's own fill.sh prints them over the translation 95746a6aa93e2890… (all of the seat's roots in one cut). By AI agents, Wed Nov 11 2026. No macro, syntax, notation, axiom, sorry.
-/
import Derived.Test.YtjmpilmmgfjpmaaDoorChecked
import GoSem.Claim
import GoSem.ClaimJoined
import GoSem.ClaimMapViews
import Derived.JoinedTies
import Derived.KernelRfl
namespace Go.Proofs.YtjmpilmmgfjpmaaDoor
/- THE CELL 'sum', in the pinned program and in every row, IS THE sha256 OF THE DUMP (.gsa) THAT YtjmpilmmgfjpmaaDoorProg.lean LOADS. Nothing in Lean hashes anything: it is a label: what it is worth is what the hold of that sum in a sandbox is worth. -/
noncomputable def Tryd.pinned : Pinned := { name := "ytjmpilmmgfjpmaadoor", sum := "95746a6aa93e2890ba6c75a37f9f878a527ede64df083a7783d9342bcd6139ce", checked := Tryd.checked }
namespace Rows
def none {H : Type} : Left H := { results := [], args := [] }

/- WHAT THE LISTED PACKAGE-LEVEL VARIABLES READ AS WHEN THE CALL BEGINS. Each datum BY PROGRAM (the guide's laid-datum.mjs) off the statement by which the dump's own 'gosem.cut.vars' lays the variable. In a bare row this is a premise. The card (YtjmpilmmgfjpmaaDoorCards.lean) ties it to the program's text. -/
def laid_riffle_scalar_traits {H : Type} : DataW H := .agg [.agg [.lit (.bool false), .lit (.bool false), .lit (.bool false), .lit (.int .i64 0), .lit (.bool false), .lit (.bool false)], .agg [.lit (.bool true), .lit (.bool true), .lit (.bool true), .lit (.int .i64 0), .lit (.bool true), .lit (.bool false)], .agg [.lit (.bool true), .lit (.bool true), .lit (.bool true), .lit (.int .i64 0), .lit (.bool false), .lit (.bool false)], .agg [.lit (.bool true), .lit (.bool true), .lit (.bool true), .lit (.int .i64 1), .lit (.bool true), .lit (.bool false)], .agg [.lit (.bool true), .lit (.bool true), .lit (.bool true), .lit (.int .i64 1), .lit (.bool false), .lit (.bool false)], .agg [.lit (.bool true), .lit (.bool true), .lit (.bool true), .lit (.int .i64 1), .lit (.bool false), .lit (.bool false)], .agg [.lit (.bool true), .lit (.bool true), .lit (.bool true), .lit (.int .i64 0), .lit (.bool false), .lit (.bool false)], .agg [.lit (.bool false), .lit (.bool true), .lit (.bool true), .lit (.int .i64 (-9223372036854775808)), .lit (.bool true), .lit (.bool true)], .agg [.lit (.bool false), .lit (.bool true), .lit (.bool true), .lit (.int .i64 9223372036854775807), .lit (.bool true), .lit (.bool true)], .agg [.lit (.bool false), .lit (.bool true), .lit (.bool true), .lit (.int .i64 1), .lit (.bool false), .lit (.bool false)], .agg [.lit (.bool false), .lit (.bool true), .lit (.bool true), .lit (.int .i64 0), .lit (.bool false), .lit (.bool false)], .agg [.lit (.bool false), .lit (.bool true), .lit (.bool true), .lit (.int .i64 0), .lit (.bool false), .lit (.bool false)], .agg [.lit (.bool false), .lit (.bool true), .lit (.bool true), .lit (.int .i64 1), .lit (.bool false), .lit (.bool false)], .agg [.lit (.bool false), .lit (.bool true), .lit (.bool true), .lit (.int .i64 0), .lit (.bool false), .lit (.bool false)], .agg [.lit (.bool false), .lit (.bool true), .lit (.bool true), .lit (.int .i64 1), .lit (.bool false), .lit (.bool false)], .agg [.lit (.bool false), .lit (.bool true), .lit (.bool true), .lit (.int .i64 (-1)), .lit (.bool true), .lit (.bool false)], .agg [.lit (.bool false), .lit (.bool true), .lit (.bool true), .lit (.int .i64 0), .lit (.bool true), .lit (.bool false)], .agg [.lit (.bool true), .lit (.bool true), .lit (.bool false), .lit (.int .i64 0), .lit (.bool true), .lit (.bool false)], .agg [.lit (.bool true), .lit (.bool true), .lit (.bool false), .lit (.int .i64 0), .lit (.bool true), .lit (.bool false)], .agg [.lit (.bool true), .lit (.bool false), .lit (.bool false), .lit (.int .i64 0), .lit (.bool false), .lit (.bool false)]]

/-- 'rifflelaw22.StepsOf': WHATEVER THE INPUT: true; the input reads as it did. -/
def stepsOfSpec : ChangeSpec := { name := "stepsOf", fn := fun _ => fun
  | [d] => { results := [.lit (.bool true)], args := [d] }
  | _ => none }
def stepsOfRow : OpenClaim := { program := "ytjmpilmmgfjpmaadoor", sum := "95746a6aa93e2890ba6c75a37f9f878a527ede64df083a7783d9342bcd6139ce", func := "riffle/rifflelaw22.StepsOf", spec := "stepsOf", unfollowed := true, recurses := true, named := ["riffle/scalar.traits"], apart := false, laid := [("riffle/scalar.traits", laid_riffle_scalar_traits)] }
def StepsOfSaid : Prop := stepsOfRow.holds Tryd.pinned (OpenSpec.ofChange stepsOfSpec)

/-- ITS FALSE NEIGHBOUR: 'it returns false'. Refute it at one input. -/
def stepsOfWrong : ChangeSpec := { name := "stepsOf", fn := fun _ => fun
  | [d] => { results := [.lit (.bool false)], args := [d] }
  | _ => none }
def StepsOfWrongFalsely : Prop := stepsOfRow.holds Tryd.pinned (OpenSpec.ofChange stepsOfWrong)

/-- 'rifflelaw22.StepsUses': WHATEVER THE INPUT: true; the input reads as it did. -/
def stepsUsesSpec : ChangeSpec := { name := "stepsUses", fn := fun _ => fun
  | [d1, d2] => { results := [.lit (.bool true)], args := [d1, d2] }
  | _ => none }
def stepsUsesRow : OpenClaim := { program := "ytjmpilmmgfjpmaadoor", sum := "95746a6aa93e2890ba6c75a37f9f878a527ede64df083a7783d9342bcd6139ce", func := "riffle/rifflelaw22.StepsUses", spec := "stepsUses", unfollowed := true, recurses := true, named := ["riffle/scalar.traits"], apart := false, laid := [("riffle/scalar.traits", laid_riffle_scalar_traits)] }
def StepsUsesSaid : Prop := stepsUsesRow.holds Tryd.pinned (OpenSpec.ofChange stepsUsesSpec)

/-- ITS FALSE NEIGHBOUR: 'it returns false'. Refute it at one input. -/
def stepsUsesWrong : ChangeSpec := { name := "stepsUses", fn := fun _ => fun
  | [d1, d2] => { results := [.lit (.bool false)], args := [d1, d2] }
  | _ => none }
def StepsUsesWrongFalsely : Prop := stepsUsesRow.holds Tryd.pinned (OpenSpec.ofChange stepsUsesWrong)

/-- 'rifflelaw22.StepsRise': WHATEVER THE INPUT: true; the input reads as it did. -/
def stepsRiseSpec : ChangeSpec := { name := "stepsRise", fn := fun _ => fun
  | [d] => { results := [.lit (.bool true)], args := [d] }
  | _ => none }
def stepsRiseRow : OpenClaim := { program := "ytjmpilmmgfjpmaadoor", sum := "95746a6aa93e2890ba6c75a37f9f878a527ede64df083a7783d9342bcd6139ce", func := "riffle/rifflelaw22.StepsRise", spec := "stepsRise", unfollowed := true, recurses := true, named := ["riffle/scalar.traits"], apart := false, laid := [("riffle/scalar.traits", laid_riffle_scalar_traits)] }
def StepsRiseSaid : Prop := stepsRiseRow.holds Tryd.pinned (OpenSpec.ofChange stepsRiseSpec)

/-- ITS FALSE NEIGHBOUR: 'it returns false'. Refute it at one input. -/
def stepsRiseWrong : ChangeSpec := { name := "stepsRise", fn := fun _ => fun
  | [d] => { results := [.lit (.bool false)], args := [d] }
  | _ => none }
def StepsRiseWrongFalsely : Prop := stepsRiseRow.holds Tryd.pinned (OpenSpec.ofChange stepsRiseWrong)

/-- 'rifflelaw22.StepsSwap': WHATEVER THE INPUT: true; the input reads as it did. -/
def stepsSwapSpec : ChangeSpec := { name := "stepsSwap", fn := fun _ => fun
  | [d1, d2, d3] => { results := [.lit (.bool true)], args := [d1, d2, d3] }
  | _ => none }
def stepsSwapRow : OpenClaim := { program := "ytjmpilmmgfjpmaadoor", sum := "95746a6aa93e2890ba6c75a37f9f878a527ede64df083a7783d9342bcd6139ce", func := "riffle/rifflelaw22.StepsSwap", spec := "stepsSwap", unfollowed := true, recurses := true, named := ["riffle/scalar.traits"], apart := false, laid := [("riffle/scalar.traits", laid_riffle_scalar_traits)] }
def StepsSwapSaid : Prop := stepsSwapRow.holds Tryd.pinned (OpenSpec.ofChange stepsSwapSpec)

/-- ITS FALSE NEIGHBOUR: 'it returns false'. Refute it at one input. -/
def stepsSwapWrong : ChangeSpec := { name := "stepsSwap", fn := fun _ => fun
  | [d1, d2, d3] => { results := [.lit (.bool false)], args := [d1, d2, d3] }
  | _ => none }
def StepsSwapWrongFalsely : Prop := stepsSwapRow.holds Tryd.pinned (OpenSpec.ofChange stepsSwapWrong)

/- THE SECOND FORM. 'bulk': how many values and letters a reading holds, each counted each time it is reached (what is shared counts as often as it is met; a slice's spare places count too). A statement '..UptoSaid' is the law's where the arguments, and the package variables that the reading takes, are together of bulk at most 1048576: NARROWER than '..Said'. Prove '..Said' where nothing that the law and all that it calls make is longer than what came in: it says more and counts as full. Else prove '..UptoSaid'. A law counts once. -/
mutual
def uptoBulk {H : Type} : DataW H → Nat
  | .lit (.string bytes) => bytes.length + 1
  | .lit _ => 1
  | .nil => 1
  | .ptr d => uptoBulk d + 1
  | .slice elems spare => uptoBulkAll elems + uptoBulkAll spare + 1
  | .agg parts => uptoBulkAll parts + 1
  | .iface _ d => uptoBulk d + 1
  | .map entries => uptoBulkEntries entries + 1
  | .held _ => 1
def uptoBulkAll {H : Type} : List (DataW H) → Nat
  | [] => 0
  | d :: r => uptoBulk d + uptoBulkAll r
def uptoBulkEntries {H : Type} : List (Lit × DataW H) → Nat
  | [] => 0
  | x :: r => uptoBulkEntry x + uptoBulkEntries r
def uptoBulkEntry {H : Type} : Lit × DataW H → Nat
  | (.string bytes, d) => bytes.length + uptoBulk d + 1
  | (_, d) => uptoBulk d + 1
 end
def uptoSmall : (H : Type) → List (DataW H) → Bool := fun _ ds => decide (uptoBulkAll ds ≤ 1048576)
def OpenSpec.upto (s : _root_.Go.ChangeSpec) : _root_.Go.OpenSpec := { _root_.Go.OpenSpec.ofChange s with cond := some uptoSmall }

/-- 'rifflelaw22.StepsOf', WHERE WHAT IT READS IS OF BULK AT MOST 1048576: true; the input reads as it did. -/
def stepsOfUptoRow : OpenClaim := { program := "ytjmpilmmgfjpmaadoor", sum := "95746a6aa93e2890ba6c75a37f9f878a527ede64df083a7783d9342bcd6139ce", func := "riffle/rifflelaw22.StepsOf", spec := "stepsOf", unfollowed := true, recurses := true, named := ["riffle/scalar.traits"], apart := false, laid := [("riffle/scalar.traits", laid_riffle_scalar_traits)], narrowed := true }
def StepsOfUptoSaid : Prop := stepsOfUptoRow.holds Tryd.pinned (OpenSpec.upto stepsOfSpec)

/-- 'rifflelaw22.StepsUses', WHERE WHAT IT READS IS OF BULK AT MOST 1048576: true; the input reads as it did. -/
def stepsUsesUptoRow : OpenClaim := { program := "ytjmpilmmgfjpmaadoor", sum := "95746a6aa93e2890ba6c75a37f9f878a527ede64df083a7783d9342bcd6139ce", func := "riffle/rifflelaw22.StepsUses", spec := "stepsUses", unfollowed := true, recurses := true, named := ["riffle/scalar.traits"], apart := false, laid := [("riffle/scalar.traits", laid_riffle_scalar_traits)], narrowed := true }
def StepsUsesUptoSaid : Prop := stepsUsesUptoRow.holds Tryd.pinned (OpenSpec.upto stepsUsesSpec)

/-- 'rifflelaw22.StepsRise', WHERE WHAT IT READS IS OF BULK AT MOST 1048576: true; the input reads as it did. -/
def stepsRiseUptoRow : OpenClaim := { program := "ytjmpilmmgfjpmaadoor", sum := "95746a6aa93e2890ba6c75a37f9f878a527ede64df083a7783d9342bcd6139ce", func := "riffle/rifflelaw22.StepsRise", spec := "stepsRise", unfollowed := true, recurses := true, named := ["riffle/scalar.traits"], apart := false, laid := [("riffle/scalar.traits", laid_riffle_scalar_traits)], narrowed := true }
def StepsRiseUptoSaid : Prop := stepsRiseUptoRow.holds Tryd.pinned (OpenSpec.upto stepsRiseSpec)

/-- 'rifflelaw22.StepsSwap', WHERE WHAT IT READS IS OF BULK AT MOST 1048576: true; the input reads as it did. -/
def stepsSwapUptoRow : OpenClaim := { program := "ytjmpilmmgfjpmaadoor", sum := "95746a6aa93e2890ba6c75a37f9f878a527ede64df083a7783d9342bcd6139ce", func := "riffle/rifflelaw22.StepsSwap", spec := "stepsSwap", unfollowed := true, recurses := true, named := ["riffle/scalar.traits"], apart := false, laid := [("riffle/scalar.traits", laid_riffle_scalar_traits)], narrowed := true }
def StepsSwapUptoSaid : Prop := stepsSwapUptoRow.holds Tryd.pinned (OpenSpec.upto stepsSwapSpec)

end Rows
end Go.Proofs.YtjmpilmmgfjpmaaDoor
