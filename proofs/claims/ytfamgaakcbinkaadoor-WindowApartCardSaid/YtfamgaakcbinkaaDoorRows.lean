/-
  NARROWER THAN 'FOR EVERY INPUT', by the rows' own cells (each row's printed sentence says how): ProductInners: laid · ProductOuters: laid · ProductItems: laid · ProductTurns: laid · WindowPlays: laid · WindowApart: laid · WindowHangs: laid · WindowAlike: laid.
  DERIVED. THE GIVEN ROWS OF THIS SEAT. 8 by the template 'for every input the law returns true; each argument reads behind the call as it read before'; 0 by the template 'total and deterministic' (their statements: YtfamgaakcbinkaaDoorTotals.lean).
  GIVEN WITH THE SEED: the statements are not yours to turn. If you find one false, say at which input.
  Laid BY PROGRAM, IN A SANDBOX (cutbox-rows.mjs): the forced cells as the released guide's own fill.sh prints them over the translation f7296ec31a47a79a… (all of the seat's roots in one cut). By AI agents, Wed Nov 11 2026. No macro, syntax, notation, axiom, sorry.
-/
import Derived.Test.YtfamgaakcbinkaaDoorChecked
import GoSem.Claim
import GoSem.ClaimJoined
import GoSem.ClaimMapViews
import Derived.JoinedTies
import Derived.KernelRfl
namespace Go.Proofs.YtfamgaakcbinkaaDoor
/- THE CELL 'sum', in the pinned program and in every row, IS THE sha256 OF THE DUMP (.gsa) THAT YtfamgaakcbinkaaDoorProg.lean LOADS. Nothing in Lean hashes anything: it is a label: what it is worth is what the hold of that sum in a sandbox is worth. -/
noncomputable def Tryd.pinned : Pinned := { name := "ytfamgaakcbinkaadoor", sum := "f7296ec31a47a79a8aa4d4dc3a0943c0312a09a6408c8786d0986b591ea47c73", checked := Tryd.checked }
namespace Rows
def none {H : Type} : Left H := { results := [], args := [] }

/- WHAT THE LISTED PACKAGE-LEVEL VARIABLES READ AS WHEN THE CALL BEGINS. Each datum BY PROGRAM (the guide's laid-datum.mjs) off the statement by which the dump's own 'gosem.cut.vars' lays the variable. In a bare row this is a premise. The card (YtfamgaakcbinkaaDoorCards.lean) ties it to the program's text. -/
def laid_riffle_scalar_traits {H : Type} : DataW H := .agg [.agg [.lit (.bool false), .lit (.bool false), .lit (.bool false), .lit (.int .i64 0), .lit (.bool false), .lit (.bool false)], .agg [.lit (.bool true), .lit (.bool true), .lit (.bool true), .lit (.int .i64 0), .lit (.bool true), .lit (.bool false)], .agg [.lit (.bool true), .lit (.bool true), .lit (.bool true), .lit (.int .i64 0), .lit (.bool false), .lit (.bool false)], .agg [.lit (.bool true), .lit (.bool true), .lit (.bool true), .lit (.int .i64 1), .lit (.bool true), .lit (.bool false)], .agg [.lit (.bool true), .lit (.bool true), .lit (.bool true), .lit (.int .i64 1), .lit (.bool false), .lit (.bool false)], .agg [.lit (.bool true), .lit (.bool true), .lit (.bool true), .lit (.int .i64 1), .lit (.bool false), .lit (.bool false)], .agg [.lit (.bool true), .lit (.bool true), .lit (.bool true), .lit (.int .i64 0), .lit (.bool false), .lit (.bool false)], .agg [.lit (.bool false), .lit (.bool true), .lit (.bool true), .lit (.int .i64 (-9223372036854775808)), .lit (.bool true), .lit (.bool true)], .agg [.lit (.bool false), .lit (.bool true), .lit (.bool true), .lit (.int .i64 9223372036854775807), .lit (.bool true), .lit (.bool true)], .agg [.lit (.bool false), .lit (.bool true), .lit (.bool true), .lit (.int .i64 1), .lit (.bool false), .lit (.bool false)], .agg [.lit (.bool false), .lit (.bool true), .lit (.bool true), .lit (.int .i64 0), .lit (.bool false), .lit (.bool false)], .agg [.lit (.bool false), .lit (.bool true), .lit (.bool true), .lit (.int .i64 0), .lit (.bool false), .lit (.bool false)], .agg [.lit (.bool false), .lit (.bool true), .lit (.bool true), .lit (.int .i64 1), .lit (.bool false), .lit (.bool false)], .agg [.lit (.bool false), .lit (.bool true), .lit (.bool true), .lit (.int .i64 0), .lit (.bool false), .lit (.bool false)], .agg [.lit (.bool false), .lit (.bool true), .lit (.bool true), .lit (.int .i64 1), .lit (.bool false), .lit (.bool false)], .agg [.lit (.bool false), .lit (.bool true), .lit (.bool true), .lit (.int .i64 (-1)), .lit (.bool true), .lit (.bool false)], .agg [.lit (.bool false), .lit (.bool true), .lit (.bool true), .lit (.int .i64 0), .lit (.bool true), .lit (.bool false)], .agg [.lit (.bool true), .lit (.bool true), .lit (.bool false), .lit (.int .i64 0), .lit (.bool true), .lit (.bool false)], .agg [.lit (.bool true), .lit (.bool true), .lit (.bool false), .lit (.int .i64 0), .lit (.bool true), .lit (.bool false)], .agg [.lit (.bool true), .lit (.bool false), .lit (.bool false), .lit (.int .i64 0), .lit (.bool false), .lit (.bool false)]]

/-- 'rifflelaw09.ProductInners': WHATEVER THE INPUT: true; the input reads as it did. -/
def productInnersSpec : ChangeSpec := { name := "productInners", fn := fun _ => fun
  | [d1, d2, d3] => { results := [.lit (.bool true)], args := [d1, d2, d3] }
  | _ => none }
def productInnersRow : OpenClaim := { program := "ytfamgaakcbinkaadoor", sum := "f7296ec31a47a79a8aa4d4dc3a0943c0312a09a6408c8786d0986b591ea47c73", func := "riffle/rifflelaw09.ProductInners", spec := "productInners", unfollowed := true, recurses := true, named := ["riffle/scalar.traits"], apart := false, laid := [("riffle/scalar.traits", laid_riffle_scalar_traits)] }
def ProductInnersSaid : Prop := productInnersRow.holds Tryd.pinned (OpenSpec.ofChange productInnersSpec)

/-- ITS FALSE NEIGHBOUR: 'it returns false'. Refute it at one input. -/
def productInnersWrong : ChangeSpec := { name := "productInners", fn := fun _ => fun
  | [d1, d2, d3] => { results := [.lit (.bool false)], args := [d1, d2, d3] }
  | _ => none }
def ProductInnersWrongFalsely : Prop := productInnersRow.holds Tryd.pinned (OpenSpec.ofChange productInnersWrong)

/-- 'rifflelaw09.ProductOuters': WHATEVER THE INPUT: true; the input reads as it did. -/
def productOutersSpec : ChangeSpec := { name := "productOuters", fn := fun _ => fun
  | [d1, d2, d3] => { results := [.lit (.bool true)], args := [d1, d2, d3] }
  | _ => none }
def productOutersRow : OpenClaim := { program := "ytfamgaakcbinkaadoor", sum := "f7296ec31a47a79a8aa4d4dc3a0943c0312a09a6408c8786d0986b591ea47c73", func := "riffle/rifflelaw09.ProductOuters", spec := "productOuters", unfollowed := true, recurses := true, named := ["riffle/scalar.traits"], apart := false, laid := [("riffle/scalar.traits", laid_riffle_scalar_traits)] }
def ProductOutersSaid : Prop := productOutersRow.holds Tryd.pinned (OpenSpec.ofChange productOutersSpec)

/-- ITS FALSE NEIGHBOUR: 'it returns false'. Refute it at one input. -/
def productOutersWrong : ChangeSpec := { name := "productOuters", fn := fun _ => fun
  | [d1, d2, d3] => { results := [.lit (.bool false)], args := [d1, d2, d3] }
  | _ => none }
def ProductOutersWrongFalsely : Prop := productOutersRow.holds Tryd.pinned (OpenSpec.ofChange productOutersWrong)

/-- 'rifflelaw09.ProductItems': WHATEVER THE INPUT: true; the input reads as it did. -/
def productItemsSpec : ChangeSpec := { name := "productItems", fn := fun _ => fun
  | [d1, d2, d3] => { results := [.lit (.bool true)], args := [d1, d2, d3] }
  | _ => none }
def productItemsRow : OpenClaim := { program := "ytfamgaakcbinkaadoor", sum := "f7296ec31a47a79a8aa4d4dc3a0943c0312a09a6408c8786d0986b591ea47c73", func := "riffle/rifflelaw09.ProductItems", spec := "productItems", unfollowed := true, recurses := true, named := ["riffle/scalar.traits"], apart := false, laid := [("riffle/scalar.traits", laid_riffle_scalar_traits)] }
def ProductItemsSaid : Prop := productItemsRow.holds Tryd.pinned (OpenSpec.ofChange productItemsSpec)

/-- ITS FALSE NEIGHBOUR: 'it returns false'. Refute it at one input. -/
def productItemsWrong : ChangeSpec := { name := "productItems", fn := fun _ => fun
  | [d1, d2, d3] => { results := [.lit (.bool false)], args := [d1, d2, d3] }
  | _ => none }
def ProductItemsWrongFalsely : Prop := productItemsRow.holds Tryd.pinned (OpenSpec.ofChange productItemsWrong)

/-- 'rifflelaw09.ProductTurns': WHATEVER THE INPUT: true; the input reads as it did. -/
def productTurnsSpec : ChangeSpec := { name := "productTurns", fn := fun _ => fun
  | [d1, d2, d3] => { results := [.lit (.bool true)], args := [d1, d2, d3] }
  | _ => none }
def productTurnsRow : OpenClaim := { program := "ytfamgaakcbinkaadoor", sum := "f7296ec31a47a79a8aa4d4dc3a0943c0312a09a6408c8786d0986b591ea47c73", func := "riffle/rifflelaw09.ProductTurns", spec := "productTurns", unfollowed := true, recurses := true, named := ["riffle/scalar.traits"], apart := false, laid := [("riffle/scalar.traits", laid_riffle_scalar_traits)] }
def ProductTurnsSaid : Prop := productTurnsRow.holds Tryd.pinned (OpenSpec.ofChange productTurnsSpec)

/-- ITS FALSE NEIGHBOUR: 'it returns false'. Refute it at one input. -/
def productTurnsWrong : ChangeSpec := { name := "productTurns", fn := fun _ => fun
  | [d1, d2, d3] => { results := [.lit (.bool false)], args := [d1, d2, d3] }
  | _ => none }
def ProductTurnsWrongFalsely : Prop := productTurnsRow.holds Tryd.pinned (OpenSpec.ofChange productTurnsWrong)

/-- 'rifflelaw15.WindowPlays': WHATEVER THE INPUT: true; the input reads as it did. -/
def windowPlaysSpec : ChangeSpec := { name := "windowPlays", fn := fun _ => fun
  | [d1, d2] => { results := [.lit (.bool true)], args := [d1, d2] }
  | _ => none }
def windowPlaysRow : OpenClaim := { program := "ytfamgaakcbinkaadoor", sum := "f7296ec31a47a79a8aa4d4dc3a0943c0312a09a6408c8786d0986b591ea47c73", func := "riffle/rifflelaw15.WindowPlays", spec := "windowPlays", unfollowed := true, recurses := true, named := ["riffle/scalar.traits"], apart := false, laid := [("riffle/scalar.traits", laid_riffle_scalar_traits)] }
def WindowPlaysSaid : Prop := windowPlaysRow.holds Tryd.pinned (OpenSpec.ofChange windowPlaysSpec)

/-- ITS FALSE NEIGHBOUR: 'it returns false'. Refute it at one input. -/
def windowPlaysWrong : ChangeSpec := { name := "windowPlays", fn := fun _ => fun
  | [d1, d2] => { results := [.lit (.bool false)], args := [d1, d2] }
  | _ => none }
def WindowPlaysWrongFalsely : Prop := windowPlaysRow.holds Tryd.pinned (OpenSpec.ofChange windowPlaysWrong)

/-- 'rifflelaw15.WindowApart': WHATEVER THE INPUT: true; the input reads as it did. -/
def windowApartSpec : ChangeSpec := { name := "windowApart", fn := fun _ => fun
  | [d1, d2, d3] => { results := [.lit (.bool true)], args := [d1, d2, d3] }
  | _ => none }
def windowApartRow : OpenClaim := { program := "ytfamgaakcbinkaadoor", sum := "f7296ec31a47a79a8aa4d4dc3a0943c0312a09a6408c8786d0986b591ea47c73", func := "riffle/rifflelaw15.WindowApart", spec := "windowApart", unfollowed := true, recurses := true, named := ["riffle/scalar.traits"], apart := false, laid := [("riffle/scalar.traits", laid_riffle_scalar_traits)] }
def WindowApartSaid : Prop := windowApartRow.holds Tryd.pinned (OpenSpec.ofChange windowApartSpec)

/-- ITS FALSE NEIGHBOUR: 'it returns false'. Refute it at one input. -/
def windowApartWrong : ChangeSpec := { name := "windowApart", fn := fun _ => fun
  | [d1, d2, d3] => { results := [.lit (.bool false)], args := [d1, d2, d3] }
  | _ => none }
def WindowApartWrongFalsely : Prop := windowApartRow.holds Tryd.pinned (OpenSpec.ofChange windowApartWrong)

/-- 'rifflelaw15.WindowHangs': WHATEVER THE INPUT: true; the input reads as it did. -/
def windowHangsSpec : ChangeSpec := { name := "windowHangs", fn := fun _ => fun
  | [d1, d2, d3] => { results := [.lit (.bool true)], args := [d1, d2, d3] }
  | _ => none }
def windowHangsRow : OpenClaim := { program := "ytfamgaakcbinkaadoor", sum := "f7296ec31a47a79a8aa4d4dc3a0943c0312a09a6408c8786d0986b591ea47c73", func := "riffle/rifflelaw15.WindowHangs", spec := "windowHangs", unfollowed := true, recurses := true, named := ["riffle/scalar.traits"], apart := false, laid := [("riffle/scalar.traits", laid_riffle_scalar_traits)] }
def WindowHangsSaid : Prop := windowHangsRow.holds Tryd.pinned (OpenSpec.ofChange windowHangsSpec)

/-- ITS FALSE NEIGHBOUR: 'it returns false'. Refute it at one input. -/
def windowHangsWrong : ChangeSpec := { name := "windowHangs", fn := fun _ => fun
  | [d1, d2, d3] => { results := [.lit (.bool false)], args := [d1, d2, d3] }
  | _ => none }
def WindowHangsWrongFalsely : Prop := windowHangsRow.holds Tryd.pinned (OpenSpec.ofChange windowHangsWrong)

/-- 'rifflelaw15.WindowAlike': WHATEVER THE INPUT: true; the input reads as it did. -/
def windowAlikeSpec : ChangeSpec := { name := "windowAlike", fn := fun _ => fun
  | [d1, d2] => { results := [.lit (.bool true)], args := [d1, d2] }
  | _ => none }
def windowAlikeRow : OpenClaim := { program := "ytfamgaakcbinkaadoor", sum := "f7296ec31a47a79a8aa4d4dc3a0943c0312a09a6408c8786d0986b591ea47c73", func := "riffle/rifflelaw15.WindowAlike", spec := "windowAlike", unfollowed := true, recurses := true, named := ["riffle/scalar.traits"], apart := false, laid := [("riffle/scalar.traits", laid_riffle_scalar_traits)] }
def WindowAlikeSaid : Prop := windowAlikeRow.holds Tryd.pinned (OpenSpec.ofChange windowAlikeSpec)

/-- ITS FALSE NEIGHBOUR: 'it returns false'. Refute it at one input. -/
def windowAlikeWrong : ChangeSpec := { name := "windowAlike", fn := fun _ => fun
  | [d1, d2] => { results := [.lit (.bool false)], args := [d1, d2] }
  | _ => none }
def WindowAlikeWrongFalsely : Prop := windowAlikeRow.holds Tryd.pinned (OpenSpec.ofChange windowAlikeWrong)

/- THE SECOND FORM. 'bulk': how many values and letters a reading holds, each counted each time it is reached (what is shared counts as often as it is met; a slice's spare places count too). A statement '..UptoSaid' is the law's where the arguments, and the package variables that the reading takes, are together of bulk at most 1048576: NARROWER than '..Said'. Prove '..Said' where nothing that the law and all that it calls make is longer than what came in: it says more and counts as full. Else prove '..UptoSaid'. A law counts once. -/
mutual
def uptoBulk {H : Type} : DataW H → Nat
  | .lit (.string bytes) => bytes.length + 1
  | .lit _ => 1
  | .nil => 1
  | .ptr d => uptoBulk d + 1
  | .slice elems spare => uptoBulkAll elems + uptoBulkAll spare + 1
  | .agg parts => uptoBulkAll parts + 1
  | .iface _ d => uptoBulk d + 1
  | .map entries => uptoBulkEntries entries + 1
  | .held _ => 1
def uptoBulkAll {H : Type} : List (DataW H) → Nat
  | [] => 0
  | d :: r => uptoBulk d + uptoBulkAll r
def uptoBulkEntries {H : Type} : List (Lit × DataW H) → Nat
  | [] => 0
  | x :: r => uptoBulkEntry x + uptoBulkEntries r
def uptoBulkEntry {H : Type} : Lit × DataW H → Nat
  | (.string bytes, d) => bytes.length + uptoBulk d + 1
  | (_, d) => uptoBulk d + 1
 end
def uptoSmall : (H : Type) → List (DataW H) → Bool := fun _ ds => decide (uptoBulkAll ds ≤ 1048576)
def OpenSpec.upto (s : _root_.Go.ChangeSpec) : _root_.Go.OpenSpec := { _root_.Go.OpenSpec.ofChange s with cond := some uptoSmall }

/-- 'rifflelaw09.ProductInners', WHERE WHAT IT READS IS OF BULK AT MOST 1048576: true; the input reads as it did. -/
def productInnersUptoRow : OpenClaim := { program := "ytfamgaakcbinkaadoor", sum := "f7296ec31a47a79a8aa4d4dc3a0943c0312a09a6408c8786d0986b591ea47c73", func := "riffle/rifflelaw09.ProductInners", spec := "productInners", unfollowed := true, recurses := true, named := ["riffle/scalar.traits"], apart := false, laid := [("riffle/scalar.traits", laid_riffle_scalar_traits)], narrowed := true }
def ProductInnersUptoSaid : Prop := productInnersUptoRow.holds Tryd.pinned (OpenSpec.upto productInnersSpec)

/-- 'rifflelaw09.ProductOuters', WHERE WHAT IT READS IS OF BULK AT MOST 1048576: true; the input reads as it did. -/
def productOutersUptoRow : OpenClaim := { program := "ytfamgaakcbinkaadoor", sum := "f7296ec31a47a79a8aa4d4dc3a0943c0312a09a6408c8786d0986b591ea47c73", func := "riffle/rifflelaw09.ProductOuters", spec := "productOuters", unfollowed := true, recurses := true, named := ["riffle/scalar.traits"], apart := false, laid := [("riffle/scalar.traits", laid_riffle_scalar_traits)], narrowed := true }
def ProductOutersUptoSaid : Prop := productOutersUptoRow.holds Tryd.pinned (OpenSpec.upto productOutersSpec)

/-- 'rifflelaw09.ProductItems', WHERE WHAT IT READS IS OF BULK AT MOST 1048576: true; the input reads as it did. -/
def productItemsUptoRow : OpenClaim := { program := "ytfamgaakcbinkaadoor", sum := "f7296ec31a47a79a8aa4d4dc3a0943c0312a09a6408c8786d0986b591ea47c73", func := "riffle/rifflelaw09.ProductItems", spec := "productItems", unfollowed := true, recurses := true, named := ["riffle/scalar.traits"], apart := false, laid := [("riffle/scalar.traits", laid_riffle_scalar_traits)], narrowed := true }
def ProductItemsUptoSaid : Prop := productItemsUptoRow.holds Tryd.pinned (OpenSpec.upto productItemsSpec)

/-- 'rifflelaw09.ProductTurns', WHERE WHAT IT READS IS OF BULK AT MOST 1048576: true; the input reads as it did. -/
def productTurnsUptoRow : OpenClaim := { program := "ytfamgaakcbinkaadoor", sum := "f7296ec31a47a79a8aa4d4dc3a0943c0312a09a6408c8786d0986b591ea47c73", func := "riffle/rifflelaw09.ProductTurns", spec := "productTurns", unfollowed := true, recurses := true, named := ["riffle/scalar.traits"], apart := false, laid := [("riffle/scalar.traits", laid_riffle_scalar_traits)], narrowed := true }
def ProductTurnsUptoSaid : Prop := productTurnsUptoRow.holds Tryd.pinned (OpenSpec.upto productTurnsSpec)

/-- 'rifflelaw15.WindowPlays', WHERE WHAT IT READS IS OF BULK AT MOST 1048576: true; the input reads as it did. -/
def windowPlaysUptoRow : OpenClaim := { program := "ytfamgaakcbinkaadoor", sum := "f7296ec31a47a79a8aa4d4dc3a0943c0312a09a6408c8786d0986b591ea47c73", func := "riffle/rifflelaw15.WindowPlays", spec := "windowPlays", unfollowed := true, recurses := true, named := ["riffle/scalar.traits"], apart := false, laid := [("riffle/scalar.traits", laid_riffle_scalar_traits)], narrowed := true }
def WindowPlaysUptoSaid : Prop := windowPlaysUptoRow.holds Tryd.pinned (OpenSpec.upto windowPlaysSpec)

/-- 'rifflelaw15.WindowApart', WHERE WHAT IT READS IS OF BULK AT MOST 1048576: true; the input reads as it did. -/
def windowApartUptoRow : OpenClaim := { program := "ytfamgaakcbinkaadoor", sum := "f7296ec31a47a79a8aa4d4dc3a0943c0312a09a6408c8786d0986b591ea47c73", func := "riffle/rifflelaw15.WindowApart", spec := "windowApart", unfollowed := true, recurses := true, named := ["riffle/scalar.traits"], apart := false, laid := [("riffle/scalar.traits", laid_riffle_scalar_traits)], narrowed := true }
def WindowApartUptoSaid : Prop := windowApartUptoRow.holds Tryd.pinned (OpenSpec.upto windowApartSpec)

/-- 'rifflelaw15.WindowHangs', WHERE WHAT IT READS IS OF BULK AT MOST 1048576: true; the input reads as it did. -/
def windowHangsUptoRow : OpenClaim := { program := "ytfamgaakcbinkaadoor", sum := "f7296ec31a47a79a8aa4d4dc3a0943c0312a09a6408c8786d0986b591ea47c73", func := "riffle/rifflelaw15.WindowHangs", spec := "windowHangs", unfollowed := true, recurses := true, named := ["riffle/scalar.traits"], apart := false, laid := [("riffle/scalar.traits", laid_riffle_scalar_traits)], narrowed := true }
def WindowHangsUptoSaid : Prop := windowHangsUptoRow.holds Tryd.pinned (OpenSpec.upto windowHangsSpec)

/-- 'rifflelaw15.WindowAlike', WHERE WHAT IT READS IS OF BULK AT MOST 1048576: true; the input reads as it did. -/
def windowAlikeUptoRow : OpenClaim := { program := "ytfamgaakcbinkaadoor", sum := "f7296ec31a47a79a8aa4d4dc3a0943c0312a09a6408c8786d0986b591ea47c73", func := "riffle/rifflelaw15.WindowAlike", spec := "windowAlike", unfollowed := true, recurses := true, named := ["riffle/scalar.traits"], apart := false, laid := [("riffle/scalar.traits", laid_riffle_scalar_traits)], narrowed := true }
def WindowAlikeUptoSaid : Prop := windowAlikeUptoRow.holds Tryd.pinned (OpenSpec.upto windowAlikeSpec)

end Rows
end Go.Proofs.YtfamgaakcbinkaaDoor
