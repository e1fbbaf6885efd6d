/-
  NARROWER THAN 'FOR EVERY INPUT', by the rows' own cells (each row's printed sentence says how): SpreadFits: laid · SpreadTwos: laid · SpreadOnes: laid · SpreadApart: laid.
  DERIVED. THE GIVEN ROWS OF THIS SEAT. 4 by the template 'for every input the law returns true; each argument reads behind the call as it read before'; 0 by the template 'total and deterministic' (their statements: YthabimjmdnhomaaDoorTotals.lean).
  GIVEN WITH THE SEED: the statements are not yours to turn. If you find one false, say at which input.
  Laid BY PROGRAM, IN A SANDBOX (cutbox-rows.mjs): the forced cells as the released guide's own fill.sh prints them over the translation 642a107ca585231d… (all of the seat's roots in one cut). By AI agents, Wed Nov 11 2026. No macro, syntax, notation, axiom, sorry.
-/
import Derived.Test.YthabimjmdnhomaaDoorChecked
import GoSem.Claim
import GoSem.ClaimJoined
import GoSem.ClaimMapViews
import Derived.JoinedTies
import Derived.KernelRfl
namespace Go.Proofs.YthabimjmdnhomaaDoor
/- THE CELL 'sum', in the pinned program and in every row, IS THE sha256 OF THE DUMP (.gsa) THAT YthabimjmdnhomaaDoorProg.lean LOADS. Nothing in Lean hashes anything: it is a label: what it is worth is what the hold of that sum in a sandbox is worth. -/
noncomputable def Tryd.pinned : Pinned := { name := "ythabimjmdnhomaadoor", sum := "642a107ca585231d949b0eb0703bbbc062ef113dcc4723a6606c5449d6f16998", checked := Tryd.checked }
namespace Rows
def none {H : Type} : Left H := { results := [], args := [] }

/- WHAT THE LISTED PACKAGE-LEVEL VARIABLES READ AS WHEN THE CALL BEGINS. Each datum BY PROGRAM (the guide's laid-datum.mjs) off the statement by which the dump's own 'gosem.cut.vars' lays the variable. In a bare row this is a premise. The card (YthabimjmdnhomaaDoorCards.lean) ties it to the program's text. -/
def laid_riffle_scalar_traits {H : Type} : DataW H := .agg [.agg [.lit (.bool false), .lit (.bool false), .lit (.bool false), .lit (.int .i64 0), .lit (.bool false), .lit (.bool false)], .agg [.lit (.bool true), .lit (.bool true), .lit (.bool true), .lit (.int .i64 0), .lit (.bool true), .lit (.bool false)], .agg [.lit (.bool true), .lit (.bool true), .lit (.bool true), .lit (.int .i64 0), .lit (.bool false), .lit (.bool false)], .agg [.lit (.bool true), .lit (.bool true), .lit (.bool true), .lit (.int .i64 1), .lit (.bool true), .lit (.bool false)], .agg [.lit (.bool true), .lit (.bool true), .lit (.bool true), .lit (.int .i64 1), .lit (.bool false), .lit (.bool false)], .agg [.lit (.bool true), .lit (.bool true), .lit (.bool true), .lit (.int .i64 1), .lit (.bool false), .lit (.bool false)], .agg [.lit (.bool true), .lit (.bool true), .lit (.bool true), .lit (.int .i64 0), .lit (.bool false), .lit (.bool false)], .agg [.lit (.bool false), .lit (.bool true), .lit (.bool true), .lit (.int .i64 (-9223372036854775808)), .lit (.bool true), .lit (.bool true)], .agg [.lit (.bool false), .lit (.bool true), .lit (.bool true), .lit (.int .i64 9223372036854775807), .lit (.bool true), .lit (.bool true)], .agg [.lit (.bool false), .lit (.bool true), .lit (.bool true), .lit (.int .i64 1), .lit (.bool false), .lit (.bool false)], .agg [.lit (.bool false), .lit (.bool true), .lit (.bool true), .lit (.int .i64 0), .lit (.bool false), .lit (.bool false)], .agg [.lit (.bool false), .lit (.bool true), .lit (.bool true), .lit (.int .i64 0), .lit (.bool false), .lit (.bool false)], .agg [.lit (.bool false), .lit (.bool true), .lit (.bool true), .lit (.int .i64 1), .lit (.bool false), .lit (.bool false)], .agg [.lit (.bool false), .lit (.bool true), .lit (.bool true), .lit (.int .i64 0), .lit (.bool false), .lit (.bool false)], .agg [.lit (.bool false), .lit (.bool true), .lit (.bool true), .lit (.int .i64 1), .lit (.bool false), .lit (.bool false)], .agg [.lit (.bool false), .lit (.bool true), .lit (.bool true), .lit (.int .i64 (-1)), .lit (.bool true), .lit (.bool false)], .agg [.lit (.bool false), .lit (.bool true), .lit (.bool true), .lit (.int .i64 0), .lit (.bool true), .lit (.bool false)], .agg [.lit (.bool true), .lit (.bool true), .lit (.bool false), .lit (.int .i64 0), .lit (.bool true), .lit (.bool false)], .agg [.lit (.bool true), .lit (.bool true), .lit (.bool false), .lit (.int .i64 0), .lit (.bool true), .lit (.bool false)], .agg [.lit (.bool true), .lit (.bool false), .lit (.bool false), .lit (.int .i64 0), .lit (.bool false), .lit (.bool false)]]

/-- 'rifflelaw05.SpreadFits': WHATEVER THE INPUT: true; the input reads as it did. -/
def spreadFitsSpec : ChangeSpec := { name := "spreadFits", fn := fun _ => fun
  | [d1, d2] => { results := [.lit (.bool true)], args := [d1, d2] }
  | _ => none }
def spreadFitsRow : OpenClaim := { program := "ythabimjmdnhomaadoor", sum := "642a107ca585231d949b0eb0703bbbc062ef113dcc4723a6606c5449d6f16998", func := "riffle/rifflelaw05.SpreadFits", spec := "spreadFits", unfollowed := true, recurses := true, named := ["riffle/scalar.traits"], apart := false, laid := [("riffle/scalar.traits", laid_riffle_scalar_traits)] }
def SpreadFitsSaid : Prop := spreadFitsRow.holds Tryd.pinned (OpenSpec.ofChange spreadFitsSpec)

/-- ITS FALSE NEIGHBOUR: 'it returns false'. Refute it at one input. -/
def spreadFitsWrong : ChangeSpec := { name := "spreadFits", fn := fun _ => fun
  | [d1, d2] => { results := [.lit (.bool false)], args := [d1, d2] }
  | _ => none }
def SpreadFitsWrongFalsely : Prop := spreadFitsRow.holds Tryd.pinned (OpenSpec.ofChange spreadFitsWrong)

/-- 'rifflelaw05.SpreadTwos': WHATEVER THE INPUT: true; the input reads as it did. -/
def spreadTwosSpec : ChangeSpec := { name := "spreadTwos", fn := fun _ => fun
  | [d1, d2, d3] => { results := [.lit (.bool true)], args := [d1, d2, d3] }
  | _ => none }
def spreadTwosRow : OpenClaim := { program := "ythabimjmdnhomaadoor", sum := "642a107ca585231d949b0eb0703bbbc062ef113dcc4723a6606c5449d6f16998", func := "riffle/rifflelaw05.SpreadTwos", spec := "spreadTwos", unfollowed := true, recurses := true, named := ["riffle/scalar.traits"], apart := false, laid := [("riffle/scalar.traits", laid_riffle_scalar_traits)] }
def SpreadTwosSaid : Prop := spreadTwosRow.holds Tryd.pinned (OpenSpec.ofChange spreadTwosSpec)

/-- ITS FALSE NEIGHBOUR: 'it returns false'. Refute it at one input. -/
def spreadTwosWrong : ChangeSpec := { name := "spreadTwos", fn := fun _ => fun
  | [d1, d2, d3] => { results := [.lit (.bool false)], args := [d1, d2, d3] }
  | _ => none }
def SpreadTwosWrongFalsely : Prop := spreadTwosRow.holds Tryd.pinned (OpenSpec.ofChange spreadTwosWrong)

/-- 'rifflelaw05.SpreadOnes': WHATEVER THE INPUT: true; the input reads as it did. -/
def spreadOnesSpec : ChangeSpec := { name := "spreadOnes", fn := fun _ => fun
  | [d1, d2] => { results := [.lit (.bool true)], args := [d1, d2] }
  | _ => none }
def spreadOnesRow : OpenClaim := { program := "ythabimjmdnhomaadoor", sum := "642a107ca585231d949b0eb0703bbbc062ef113dcc4723a6606c5449d6f16998", func := "riffle/rifflelaw05.SpreadOnes", spec := "spreadOnes", unfollowed := true, recurses := true, named := ["riffle/scalar.traits"], apart := false, laid := [("riffle/scalar.traits", laid_riffle_scalar_traits)] }
def SpreadOnesSaid : Prop := spreadOnesRow.holds Tryd.pinned (OpenSpec.ofChange spreadOnesSpec)

/-- ITS FALSE NEIGHBOUR: 'it returns false'. Refute it at one input. -/
def spreadOnesWrong : ChangeSpec := { name := "spreadOnes", fn := fun _ => fun
  | [d1, d2] => { results := [.lit (.bool false)], args := [d1, d2] }
  | _ => none }
def SpreadOnesWrongFalsely : Prop := spreadOnesRow.holds Tryd.pinned (OpenSpec.ofChange spreadOnesWrong)

/-- 'rifflelaw05.SpreadApart': WHATEVER THE INPUT: true; the input reads as it did. -/
def spreadApartSpec : ChangeSpec := { name := "spreadApart", fn := fun _ => fun
  | [d1, d2, d3] => { results := [.lit (.bool true)], args := [d1, d2, d3] }
  | _ => none }
def spreadApartRow : OpenClaim := { program := "ythabimjmdnhomaadoor", sum := "642a107ca585231d949b0eb0703bbbc062ef113dcc4723a6606c5449d6f16998", func := "riffle/rifflelaw05.SpreadApart", spec := "spreadApart", unfollowed := true, recurses := true, named := ["riffle/scalar.traits"], apart := false, laid := [("riffle/scalar.traits", laid_riffle_scalar_traits)] }
def SpreadApartSaid : Prop := spreadApartRow.holds Tryd.pinned (OpenSpec.ofChange spreadApartSpec)

/-- ITS FALSE NEIGHBOUR: 'it returns false'. Refute it at one input. -/
def spreadApartWrong : ChangeSpec := { name := "spreadApart", fn := fun _ => fun
  | [d1, d2, d3] => { results := [.lit (.bool false)], args := [d1, d2, d3] }
  | _ => none }
def SpreadApartWrongFalsely : Prop := spreadApartRow.holds Tryd.pinned (OpenSpec.ofChange spreadApartWrong)

/- THE SECOND FORM. 'bulk': how many values and letters a reading holds, each counted each time it is reached (what is shared counts as often as it is met; a slice's spare places count too). A statement '..UptoSaid' is the law's where the arguments, and the package variables that the reading takes, are together of bulk at most 1048576: NARROWER than '..Said'. Prove '..Said' where nothing that the law and all that it calls make is longer than what came in: it says more and counts as full. Else prove '..UptoSaid'. A law counts once. -/
mutual
def uptoBulk {H : Type} : DataW H → Nat
  | .lit (.string bytes) => bytes.length + 1
  | .lit _ => 1
  | .nil => 1
  | .ptr d => uptoBulk d + 1
  | .slice elems spare => uptoBulkAll elems + uptoBulkAll spare + 1
  | .agg parts => uptoBulkAll parts + 1
  | .iface _ d => uptoBulk d + 1
  | .map entries => uptoBulkEntries entries + 1
  | .held _ => 1
def uptoBulkAll {H : Type} : List (DataW H) → Nat
  | [] => 0
  | d :: r => uptoBulk d + uptoBulkAll r
def uptoBulkEntries {H : Type} : List (Lit × DataW H) → Nat
  | [] => 0
  | x :: r => uptoBulkEntry x + uptoBulkEntries r
def uptoBulkEntry {H : Type} : Lit × DataW H → Nat
  | (.string bytes, d) => bytes.length + uptoBulk d + 1
  | (_, d) => uptoBulk d + 1
 end
def uptoSmall : (H : Type) → List (DataW H) → Bool := fun _ ds => decide (uptoBulkAll ds ≤ 1048576)
def OpenSpec.upto (s : _root_.Go.ChangeSpec) : _root_.Go.OpenSpec := { _root_.Go.OpenSpec.ofChange s with cond := some uptoSmall }

/-- 'rifflelaw05.SpreadFits', WHERE WHAT IT READS IS OF BULK AT MOST 1048576: true; the input reads as it did. -/
def spreadFitsUptoRow : OpenClaim := { program := "ythabimjmdnhomaadoor", sum := "642a107ca585231d949b0eb0703bbbc062ef113dcc4723a6606c5449d6f16998", func := "riffle/rifflelaw05.SpreadFits", spec := "spreadFits", unfollowed := true, recurses := true, named := ["riffle/scalar.traits"], apart := false, laid := [("riffle/scalar.traits", laid_riffle_scalar_traits)], narrowed := true }
def SpreadFitsUptoSaid : Prop := spreadFitsUptoRow.holds Tryd.pinned (OpenSpec.upto spreadFitsSpec)

/-- 'rifflelaw05.SpreadTwos', WHERE WHAT IT READS IS OF BULK AT MOST 1048576: true; the input reads as it did. -/
def spreadTwosUptoRow : OpenClaim := { program := "ythabimjmdnhomaadoor", sum := "642a107ca585231d949b0eb0703bbbc062ef113dcc4723a6606c5449d6f16998", func := "riffle/rifflelaw05.SpreadTwos", spec := "spreadTwos", unfollowed := true, recurses := true, named := ["riffle/scalar.traits"], apart := false, laid := [("riffle/scalar.traits", laid_riffle_scalar_traits)], narrowed := true }
def SpreadTwosUptoSaid : Prop := spreadTwosUptoRow.holds Tryd.pinned (OpenSpec.upto spreadTwosSpec)

/-- 'rifflelaw05.SpreadOnes', WHERE WHAT IT READS IS OF BULK AT MOST 1048576: true; the input reads as it did. -/
def spreadOnesUptoRow : OpenClaim := { program := "ythabimjmdnhomaadoor", sum := "642a107ca585231d949b0eb0703bbbc062ef113dcc4723a6606c5449d6f16998", func := "riffle/rifflelaw05.SpreadOnes", spec := "spreadOnes", unfollowed := true, recurses := true, named := ["riffle/scalar.traits"], apart := false, laid := [("riffle/scalar.traits", laid_riffle_scalar_traits)], narrowed := true }
def SpreadOnesUptoSaid : Prop := spreadOnesUptoRow.holds Tryd.pinned (OpenSpec.upto spreadOnesSpec)

/-- 'rifflelaw05.SpreadApart', WHERE WHAT IT READS IS OF BULK AT MOST 1048576: true; the input reads as it did. -/
def spreadApartUptoRow : OpenClaim := { program := "ythabimjmdnhomaadoor", sum := "642a107ca585231d949b0eb0703bbbc062ef113dcc4723a6606c5449d6f16998", func := "riffle/rifflelaw05.SpreadApart", spec := "spreadApart", unfollowed := true, recurses := true, named := ["riffle/scalar.traits"], apart := false, laid := [("riffle/scalar.traits", laid_riffle_scalar_traits)], narrowed := true }
def SpreadApartUptoSaid : Prop := spreadApartUptoRow.holds Tryd.pinned (OpenSpec.upto spreadApartSpec)

end Rows
end Go.Proofs.YthabimjmdnhomaaDoor
