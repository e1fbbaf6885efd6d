/-
  NARROWER THAN 'FOR EVERY INPUT', by the rows' own cells (each row's printed sentence says how): ScalarTwos: laid · ScalarOnes: laid · ScalarKinds: laid · ScalarJoins: laid · ScalarParts: laid.
  DERIVED. THE GIVEN ROWS OF THIS SEAT. 5 by the template 'for every input the law returns true; each argument reads behind the call as it read before'; 0 by the template 'total and deterministic' (their statements: YtknphbkmghflcaaDoorTotals.lean).
  GIVEN WITH THE SEED: the statements are not yours to turn. If you find one false, say at which input.
  Laid BY PROGRAM, IN A SANDBOX (cutbox-rows.mjs): the forced cells as the released guide's own fill.sh prints them over the translation ead7c83bcd1d2781… (all of the seat's roots in one cut). By AI agents, Wed Nov 11 2026. No macro, syntax, notation, axiom, sorry.
-/
import Derived.Test.YtknphbkmghflcaaDoorChecked
import GoSem.Claim
import GoSem.ClaimJoined
import GoSem.ClaimMapViews
import Derived.JoinedTies
import Derived.KernelRfl
namespace Go.Proofs.YtknphbkmghflcaaDoor
/- THE CELL 'sum', in the pinned program and in every row, IS THE sha256 OF THE DUMP (.gsa) THAT YtknphbkmghflcaaDoorProg.lean LOADS. Nothing in Lean hashes anything: it is a label: what it is worth is what the hold of that sum in a sandbox is worth. -/
noncomputable def Tryd.pinned : Pinned := { name := "ytknphbkmghflcaadoor", sum := "ead7c83bcd1d2781047bcc6eef270b1bc87d545f924ad5bf901c7c37c4f07e00", checked := Tryd.checked }
namespace Rows
def none {H : Type} : Left H := { results := [], args := [] }

/- WHAT THE LISTED PACKAGE-LEVEL VARIABLES READ AS WHEN THE CALL BEGINS. Each datum BY PROGRAM (the guide's laid-datum.mjs) off the statement by which the dump's own 'gosem.cut.vars' lays the variable. In a bare row this is a premise. The card (YtknphbkmghflcaaDoorCards.lean) ties it to the program's text. -/
def laid_riffle_scalar_traits {H : Type} : DataW H := .agg [.agg [.lit (.bool false), .lit (.bool false), .lit (.bool false), .lit (.int .i64 0), .lit (.bool false), .lit (.bool false)], .agg [.lit (.bool true), .lit (.bool true), .lit (.bool true), .lit (.int .i64 0), .lit (.bool true), .lit (.bool false)], .agg [.lit (.bool true), .lit (.bool true), .lit (.bool true), .lit (.int .i64 0), .lit (.bool false), .lit (.bool false)], .agg [.lit (.bool true), .lit (.bool true), .lit (.bool true), .lit (.int .i64 1), .lit (.bool true), .lit (.bool false)], .agg [.lit (.bool true), .lit (.bool true), .lit (.bool true), .lit (.int .i64 1), .lit (.bool false), .lit (.bool false)], .agg [.lit (.bool true), .lit (.bool true), .lit (.bool true), .lit (.int .i64 1), .lit (.bool false), .lit (.bool false)], .agg [.lit (.bool true), .lit (.bool true), .lit (.bool true), .lit (.int .i64 0), .lit (.bool false), .lit (.bool false)], .agg [.lit (.bool false), .lit (.bool true), .lit (.bool true), .lit (.int .i64 (-9223372036854775808)), .lit (.bool true), .lit (.bool true)], .agg [.lit (.bool false), .lit (.bool true), .lit (.bool true), .lit (.int .i64 9223372036854775807), .lit (.bool true), .lit (.bool true)], .agg [.lit (.bool false), .lit (.bool true), .lit (.bool true), .lit (.int .i64 1), .lit (.bool false), .lit (.bool false)], .agg [.lit (.bool false), .lit (.bool true), .lit (.bool true), .lit (.int .i64 0), .lit (.bool false), .lit (.bool false)], .agg [.lit (.bool false), .lit (.bool true), .lit (.bool true), .lit (.int .i64 0), .lit (.bool false), .lit (.bool false)], .agg [.lit (.bool false), .lit (.bool true), .lit (.bool true), .lit (.int .i64 1), .lit (.bool false), .lit (.bool false)], .agg [.lit (.bool false), .lit (.bool true), .lit (.bool true), .lit (.int .i64 0), .lit (.bool false), .lit (.bool false)], .agg [.lit (.bool false), .lit (.bool true), .lit (.bool true), .lit (.int .i64 1), .lit (.bool false), .lit (.bool false)], .agg [.lit (.bool false), .lit (.bool true), .lit (.bool true), .lit (.int .i64 (-1)), .lit (.bool true), .lit (.bool false)], .agg [.lit (.bool false), .lit (.bool true), .lit (.bool true), .lit (.int .i64 0), .lit (.bool true), .lit (.bool false)], .agg [.lit (.bool true), .lit (.bool true), .lit (.bool false), .lit (.int .i64 0), .lit (.bool true), .lit (.bool false)], .agg [.lit (.bool true), .lit (.bool true), .lit (.bool false), .lit (.int .i64 0), .lit (.bool true), .lit (.bool false)], .agg [.lit (.bool true), .lit (.bool false), .lit (.bool false), .lit (.int .i64 0), .lit (.bool false), .lit (.bool false)]]

/-- 'rifflelaw04.ScalarTwos': WHATEVER THE INPUT: true; the input reads as it did. -/
def scalarTwosSpec : ChangeSpec := { name := "scalarTwos", fn := fun _ => fun
  | [d1, d2, d3] => { results := [.lit (.bool true)], args := [d1, d2, d3] }
  | _ => none }
def scalarTwosRow : OpenClaim := { program := "ytknphbkmghflcaadoor", sum := "ead7c83bcd1d2781047bcc6eef270b1bc87d545f924ad5bf901c7c37c4f07e00", func := "riffle/rifflelaw04.ScalarTwos", spec := "scalarTwos", named := ["riffle/scalar.traits"], apart := false, laid := [("riffle/scalar.traits", laid_riffle_scalar_traits)] }
def ScalarTwosSaid : Prop := scalarTwosRow.holds Tryd.pinned (OpenSpec.ofChange scalarTwosSpec)

/-- ITS FALSE NEIGHBOUR: 'it returns false'. Refute it at one input. -/
def scalarTwosWrong : ChangeSpec := { name := "scalarTwos", fn := fun _ => fun
  | [d1, d2, d3] => { results := [.lit (.bool false)], args := [d1, d2, d3] }
  | _ => none }
def ScalarTwosWrongFalsely : Prop := scalarTwosRow.holds Tryd.pinned (OpenSpec.ofChange scalarTwosWrong)

/-- 'rifflelaw04.ScalarOnes': WHATEVER THE INPUT: true; the input reads as it did. -/
def scalarOnesSpec : ChangeSpec := { name := "scalarOnes", fn := fun _ => fun
  | [d1, d2, d3] => { results := [.lit (.bool true)], args := [d1, d2, d3] }
  | _ => none }
def scalarOnesRow : OpenClaim := { program := "ytknphbkmghflcaadoor", sum := "ead7c83bcd1d2781047bcc6eef270b1bc87d545f924ad5bf901c7c37c4f07e00", func := "riffle/rifflelaw04.ScalarOnes", spec := "scalarOnes", named := ["riffle/scalar.traits"], apart := false, laid := [("riffle/scalar.traits", laid_riffle_scalar_traits)] }
def ScalarOnesSaid : Prop := scalarOnesRow.holds Tryd.pinned (OpenSpec.ofChange scalarOnesSpec)

/-- ITS FALSE NEIGHBOUR: 'it returns false'. Refute it at one input. -/
def scalarOnesWrong : ChangeSpec := { name := "scalarOnes", fn := fun _ => fun
  | [d1, d2, d3] => { results := [.lit (.bool false)], args := [d1, d2, d3] }
  | _ => none }
def ScalarOnesWrongFalsely : Prop := scalarOnesRow.holds Tryd.pinned (OpenSpec.ofChange scalarOnesWrong)

/-- 'rifflelaw04.ScalarKinds': WHATEVER THE INPUT: true; the input reads as it did. -/
def scalarKindsSpec : ChangeSpec := { name := "scalarKinds", fn := fun _ => fun
  | [d] => { results := [.lit (.bool true)], args := [d] }
  | _ => none }
def scalarKindsRow : OpenClaim := { program := "ytknphbkmghflcaadoor", sum := "ead7c83bcd1d2781047bcc6eef270b1bc87d545f924ad5bf901c7c37c4f07e00", func := "riffle/rifflelaw04.ScalarKinds", spec := "scalarKinds", named := ["riffle/scalar.traits"], apart := false, laid := [("riffle/scalar.traits", laid_riffle_scalar_traits)] }
def ScalarKindsSaid : Prop := scalarKindsRow.holds Tryd.pinned (OpenSpec.ofChange scalarKindsSpec)

/-- ITS FALSE NEIGHBOUR: 'it returns false'. Refute it at one input. -/
def scalarKindsWrong : ChangeSpec := { name := "scalarKinds", fn := fun _ => fun
  | [d] => { results := [.lit (.bool false)], args := [d] }
  | _ => none }
def ScalarKindsWrongFalsely : Prop := scalarKindsRow.holds Tryd.pinned (OpenSpec.ofChange scalarKindsWrong)

/-- 'rifflelaw04.ScalarJoins': WHATEVER THE INPUT: true; the input reads as it did. -/
def scalarJoinsSpec : ChangeSpec := { name := "scalarJoins", fn := fun _ => fun
  | [d1, d2] => { results := [.lit (.bool true)], args := [d1, d2] }
  | _ => none }
def scalarJoinsRow : OpenClaim := { program := "ytknphbkmghflcaadoor", sum := "ead7c83bcd1d2781047bcc6eef270b1bc87d545f924ad5bf901c7c37c4f07e00", func := "riffle/rifflelaw04.ScalarJoins", spec := "scalarJoins", named := ["riffle/scalar.traits"], apart := false, laid := [("riffle/scalar.traits", laid_riffle_scalar_traits)] }
def ScalarJoinsSaid : Prop := scalarJoinsRow.holds Tryd.pinned (OpenSpec.ofChange scalarJoinsSpec)

/-- ITS FALSE NEIGHBOUR: 'it returns false'. Refute it at one input. -/
def scalarJoinsWrong : ChangeSpec := { name := "scalarJoins", fn := fun _ => fun
  | [d1, d2] => { results := [.lit (.bool false)], args := [d1, d2] }
  | _ => none }
def ScalarJoinsWrongFalsely : Prop := scalarJoinsRow.holds Tryd.pinned (OpenSpec.ofChange scalarJoinsWrong)

/-- 'rifflelaw04.ScalarParts': WHATEVER THE INPUT: true; the input reads as it did. -/
def scalarPartsSpec : ChangeSpec := { name := "scalarParts", fn := fun _ => fun
  | [d1, d2, d3] => { results := [.lit (.bool true)], args := [d1, d2, d3] }
  | _ => none }
def scalarPartsRow : OpenClaim := { program := "ytknphbkmghflcaadoor", sum := "ead7c83bcd1d2781047bcc6eef270b1bc87d545f924ad5bf901c7c37c4f07e00", func := "riffle/rifflelaw04.ScalarParts", spec := "scalarParts", named := ["riffle/scalar.traits"], apart := false, laid := [("riffle/scalar.traits", laid_riffle_scalar_traits)] }
def ScalarPartsSaid : Prop := scalarPartsRow.holds Tryd.pinned (OpenSpec.ofChange scalarPartsSpec)

/-- ITS FALSE NEIGHBOUR: 'it returns false'. Refute it at one input. -/
def scalarPartsWrong : ChangeSpec := { name := "scalarParts", fn := fun _ => fun
  | [d1, d2, d3] => { results := [.lit (.bool false)], args := [d1, d2, d3] }
  | _ => none }
def ScalarPartsWrongFalsely : Prop := scalarPartsRow.holds Tryd.pinned (OpenSpec.ofChange scalarPartsWrong)

/- THE SECOND FORM. 'bulk': how many values and letters a reading holds, each counted each time it is reached (what is shared counts as often as it is met; a slice's spare places count too). A statement '..UptoSaid' is the law's where the arguments, and the package variables that the reading takes, are together of bulk at most 1048576: NARROWER than '..Said'. Prove '..Said' where nothing that the law and all that it calls make is longer than what came in: it says more and counts as full. Else prove '..UptoSaid'. A law counts once. -/
mutual
def uptoBulk {H : Type} : DataW H → Nat
  | .lit (.string bytes) => bytes.length + 1
  | .lit _ => 1
  | .nil => 1
  | .ptr d => uptoBulk d + 1
  | .slice elems spare => uptoBulkAll elems + uptoBulkAll spare + 1
  | .agg parts => uptoBulkAll parts + 1
  | .iface _ d => uptoBulk d + 1
  | .map entries => uptoBulkEntries entries + 1
  | .held _ => 1
def uptoBulkAll {H : Type} : List (DataW H) → Nat
  | [] => 0
  | d :: r => uptoBulk d + uptoBulkAll r
def uptoBulkEntries {H : Type} : List (Lit × DataW H) → Nat
  | [] => 0
  | x :: r => uptoBulkEntry x + uptoBulkEntries r
def uptoBulkEntry {H : Type} : Lit × DataW H → Nat
  | (.string bytes, d) => bytes.length + uptoBulk d + 1
  | (_, d) => uptoBulk d + 1
 end
def uptoSmall : (H : Type) → List (DataW H) → Bool := fun _ ds => decide (uptoBulkAll ds ≤ 1048576)
def OpenSpec.upto (s : _root_.Go.ChangeSpec) : _root_.Go.OpenSpec := { _root_.Go.OpenSpec.ofChange s with cond := some uptoSmall }

/-- 'rifflelaw04.ScalarTwos', WHERE WHAT IT READS IS OF BULK AT MOST 1048576: true; the input reads as it did. -/
def scalarTwosUptoRow : OpenClaim := { program := "ytknphbkmghflcaadoor", sum := "ead7c83bcd1d2781047bcc6eef270b1bc87d545f924ad5bf901c7c37c4f07e00", func := "riffle/rifflelaw04.ScalarTwos", spec := "scalarTwos", named := ["riffle/scalar.traits"], apart := false, laid := [("riffle/scalar.traits", laid_riffle_scalar_traits)], narrowed := true }
def ScalarTwosUptoSaid : Prop := scalarTwosUptoRow.holds Tryd.pinned (OpenSpec.upto scalarTwosSpec)

/-- 'rifflelaw04.ScalarOnes', WHERE WHAT IT READS IS OF BULK AT MOST 1048576: true; the input reads as it did. -/
def scalarOnesUptoRow : OpenClaim := { program := "ytknphbkmghflcaadoor", sum := "ead7c83bcd1d2781047bcc6eef270b1bc87d545f924ad5bf901c7c37c4f07e00", func := "riffle/rifflelaw04.ScalarOnes", spec := "scalarOnes", named := ["riffle/scalar.traits"], apart := false, laid := [("riffle/scalar.traits", laid_riffle_scalar_traits)], narrowed := true }
def ScalarOnesUptoSaid : Prop := scalarOnesUptoRow.holds Tryd.pinned (OpenSpec.upto scalarOnesSpec)

/-- 'rifflelaw04.ScalarKinds', WHERE WHAT IT READS IS OF BULK AT MOST 1048576: true; the input reads as it did. -/
def scalarKindsUptoRow : OpenClaim := { program := "ytknphbkmghflcaadoor", sum := "ead7c83bcd1d2781047bcc6eef270b1bc87d545f924ad5bf901c7c37c4f07e00", func := "riffle/rifflelaw04.ScalarKinds", spec := "scalarKinds", named := ["riffle/scalar.traits"], apart := false, laid := [("riffle/scalar.traits", laid_riffle_scalar_traits)], narrowed := true }
def ScalarKindsUptoSaid : Prop := scalarKindsUptoRow.holds Tryd.pinned (OpenSpec.upto scalarKindsSpec)

/-- 'rifflelaw04.ScalarJoins', WHERE WHAT IT READS IS OF BULK AT MOST 1048576: true; the input reads as it did. -/
def scalarJoinsUptoRow : OpenClaim := { program := "ytknphbkmghflcaadoor", sum := "ead7c83bcd1d2781047bcc6eef270b1bc87d545f924ad5bf901c7c37c4f07e00", func := "riffle/rifflelaw04.ScalarJoins", spec := "scalarJoins", named := ["riffle/scalar.traits"], apart := false, laid := [("riffle/scalar.traits", laid_riffle_scalar_traits)], narrowed := true }
def ScalarJoinsUptoSaid : Prop := scalarJoinsUptoRow.holds Tryd.pinned (OpenSpec.upto scalarJoinsSpec)

/-- 'rifflelaw04.ScalarParts', WHERE WHAT IT READS IS OF BULK AT MOST 1048576: true; the input reads as it did. -/
def scalarPartsUptoRow : OpenClaim := { program := "ytknphbkmghflcaadoor", sum := "ead7c83bcd1d2781047bcc6eef270b1bc87d545f924ad5bf901c7c37c4f07e00", func := "riffle/rifflelaw04.ScalarParts", spec := "scalarParts", named := ["riffle/scalar.traits"], apart := false, laid := [("riffle/scalar.traits", laid_riffle_scalar_traits)], narrowed := true }
def ScalarPartsUptoSaid : Prop := scalarPartsUptoRow.holds Tryd.pinned (OpenSpec.upto scalarPartsSpec)

end Rows
end Go.Proofs.YtknphbkmghflcaaDoor
