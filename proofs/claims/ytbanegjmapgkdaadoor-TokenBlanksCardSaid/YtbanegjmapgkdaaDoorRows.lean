/-
  NARROWER THAN 'FOR EVERY INPUT', by the rows' own cells (each row's printed sentence says how): ProductInners: laid · ProductOuters: laid · ProductItems: laid · ProductTurns: laid · TokenLexes: laid · TokenRises: laid · TokenBlanks: laid.
  DERIVED. THE GIVEN ROWS OF THIS SEAT. 7 by the template 'for every input the law returns true; each argument reads behind the call as it read before'; 0 by the template 'total and deterministic' (their statements: YtbanegjmapgkdaaDoorTotals.lean).
  GIVEN WITH THE SEED: the statements are not yours to turn. If you find one false, say at which input.
  Laid BY PROGRAM, IN A SANDBOX (cutbox-rows.mjs): the forced cells as the released guide's own fill.sh prints them over the translation bccc672624558166… (all of the seat's roots in one cut). By AI agents, Wed Nov 11 2026. No macro, syntax, notation, axiom, sorry.
-/
import Derived.Test.YtbanegjmapgkdaaDoorChecked
import GoSem.PinnedTables
import GoSem.Claim
import GoSem.ClaimJoined
import GoSem.ClaimMapViews
import Derived.JoinedTies
import Derived.KernelRfl
namespace Go.Proofs.YtbanegjmapgkdaaDoor
/- THE CELL 'sum', in the pinned program and in every row, IS THE sha256 OF THE DUMP (.gsa) THAT YtbanegjmapgkdaaDoorProg.lean LOADS. Nothing in Lean hashes anything: it is a label: what it is worth is what the hold of that sum in a sandbox is worth. -/
noncomputable def Tryd.pinned : Pinned := { name := "ytbanegjmapgkdaadoor", sum := "bccc672624558166b35ec2a658a60ca67b0ebabdb9147474494884780dc4eb7b", checked := Tryd.checked }
namespace Rows
def none {H : Type} : Left H := { results := [], args := [] }

/- WHAT THE LISTED PACKAGE-LEVEL VARIABLES READ AS WHEN THE CALL BEGINS. Each datum BY PROGRAM (the guide's laid-datum.mjs) off the statement by which the dump's own 'gosem.cut.vars' lays the variable. In a bare row this is a premise. The card (YtbanegjmapgkdaaDoorCards.lean) ties it to the program's text. -/
def laid_riffle_scalar_traits {H : Type} : DataW H := .agg [.agg [.lit (.bool false), .lit (.bool false), .lit (.bool false), .lit (.int .i64 0), .lit (.bool false), .lit (.bool false)], .agg [.lit (.bool true), .lit (.bool true), .lit (.bool true), .lit (.int .i64 0), .lit (.bool true), .lit (.bool false)], .agg [.lit (.bool true), .lit (.bool true), .lit (.bool true), .lit (.int .i64 0), .lit (.bool false), .lit (.bool false)], .agg [.lit (.bool true), .lit (.bool true), .lit (.bool true), .lit (.int .i64 1), .lit (.bool true), .lit (.bool false)], .agg [.lit (.bool true), .lit (.bool true), .lit (.bool true), .lit (.int .i64 1), .lit (.bool false), .lit (.bool false)], .agg [.lit (.bool true), .lit (.bool true), .lit (.bool true), .lit (.int .i64 1), .lit (.bool false), .lit (.bool false)], .agg [.lit (.bool true), .lit (.bool true), .lit (.bool true), .lit (.int .i64 0), .lit (.bool false), .lit (.bool false)], .agg [.lit (.bool false), .lit (.bool true), .lit (.bool true), .lit (.int .i64 (-9223372036854775808)), .lit (.bool true), .lit (.bool true)], .agg [.lit (.bool false), .lit (.bool true), .lit (.bool true), .lit (.int .i64 9223372036854775807), .lit (.bool true), .lit (.bool true)], .agg [.lit (.bool false), .lit (.bool true), .lit (.bool true), .lit (.int .i64 1), .lit (.bool false), .lit (.bool false)], .agg [.lit (.bool false), .lit (.bool true), .lit (.bool true), .lit (.int .i64 0), .lit (.bool false), .lit (.bool false)], .agg [.lit (.bool false), .lit (.bool true), .lit (.bool true), .lit (.int .i64 0), .lit (.bool false), .lit (.bool false)], .agg [.lit (.bool false), .lit (.bool true), .lit (.bool true), .lit (.int .i64 1), .lit (.bool false), .lit (.bool false)], .agg [.lit (.bool false), .lit (.bool true), .lit (.bool true), .lit (.int .i64 0), .lit (.bool false), .lit (.bool false)], .agg [.lit (.bool false), .lit (.bool true), .lit (.bool true), .lit (.int .i64 1), .lit (.bool false), .lit (.bool false)], .agg [.lit (.bool false), .lit (.bool true), .lit (.bool true), .lit (.int .i64 (-1)), .lit (.bool true), .lit (.bool false)], .agg [.lit (.bool false), .lit (.bool true), .lit (.bool true), .lit (.int .i64 0), .lit (.bool true), .lit (.bool false)], .agg [.lit (.bool true), .lit (.bool true), .lit (.bool false), .lit (.int .i64 0), .lit (.bool true), .lit (.bool false)], .agg [.lit (.bool true), .lit (.bool true), .lit (.bool false), .lit (.int .i64 0), .lit (.bool true), .lit (.bool false)], .agg [.lit (.bool true), .lit (.bool false), .lit (.bool false), .lit (.int .i64 0), .lit (.bool false), .lit (.bool false)]]
def laid_unicode_utf8_acceptRanges {H : Type} : DataW H := .agg [.agg [.lit (.int .u8 128), .lit (.int .u8 191)], .agg [.lit (.int .u8 160), .lit (.int .u8 191)], .agg [.lit (.int .u8 128), .lit (.int .u8 159)], .agg [.lit (.int .u8 144), .lit (.int .u8 191)], .agg [.lit (.int .u8 128), .lit (.int .u8 143)], .agg [.lit (.int .u8 0), .lit (.int .u8 0)], .agg [.lit (.int .u8 0), .lit (.int .u8 0)], .agg [.lit (.int .u8 0), .lit (.int .u8 0)], .agg [.lit (.int .u8 0), .lit (.int .u8 0)], .agg [.lit (.int .u8 0), .lit (.int .u8 0)], .agg [.lit (.int .u8 0), .lit (.int .u8 0)], .agg [.lit (.int .u8 0), .lit (.int .u8 0)], .agg [.lit (.int .u8 0), .lit (.int .u8 0)], .agg [.lit (.int .u8 0), .lit (.int .u8 0)], .agg [.lit (.int .u8 0), .lit (.int .u8 0)], .agg [.lit (.int .u8 0), .lit (.int .u8 0)]]
/-- One of Go's own tables, pinned by name: the form's constant. -/
def laid_unicode_utf8_first : DataW Unit := Go.Pinned.utf8First

/-- 'rifflelaw09.ProductInners': WHATEVER THE INPUT: true; the input reads as it did. -/
def productInnersSpec : ChangeSpec := { name := "productInners", fn := fun _ => fun
  | [d1, d2, d3] => { results := [.lit (.bool true)], args := [d1, d2, d3] }
  | _ => none }
def productInnersRow : OpenClaim := { program := "ytbanegjmapgkdaadoor", sum := "bccc672624558166b35ec2a658a60ca67b0ebabdb9147474494884780dc4eb7b", func := "riffle/rifflelaw09.ProductInners", spec := "productInners", unfollowed := true, recurses := true, named := ["riffle/scalar.traits"], apart := false, laid := [("riffle/scalar.traits", laid_riffle_scalar_traits)] }
def ProductInnersSaid : Prop := productInnersRow.holds Tryd.pinned (OpenSpec.ofChange productInnersSpec)

/-- ITS FALSE NEIGHBOUR: 'it returns false'. Refute it at one input. -/
def productInnersWrong : ChangeSpec := { name := "productInners", fn := fun _ => fun
  | [d1, d2, d3] => { results := [.lit (.bool false)], args := [d1, d2, d3] }
  | _ => none }
def ProductInnersWrongFalsely : Prop := productInnersRow.holds Tryd.pinned (OpenSpec.ofChange productInnersWrong)

/-- 'rifflelaw09.ProductOuters': WHATEVER THE INPUT: true; the input reads as it did. -/
def productOutersSpec : ChangeSpec := { name := "productOuters", fn := fun _ => fun
  | [d1, d2, d3] => { results := [.lit (.bool true)], args := [d1, d2, d3] }
  | _ => none }
def productOutersRow : OpenClaim := { program := "ytbanegjmapgkdaadoor", sum := "bccc672624558166b35ec2a658a60ca67b0ebabdb9147474494884780dc4eb7b", func := "riffle/rifflelaw09.ProductOuters", spec := "productOuters", unfollowed := true, recurses := true, named := ["riffle/scalar.traits"], apart := false, laid := [("riffle/scalar.traits", laid_riffle_scalar_traits)] }
def ProductOutersSaid : Prop := productOutersRow.holds Tryd.pinned (OpenSpec.ofChange productOutersSpec)

/-- ITS FALSE NEIGHBOUR: 'it returns false'. Refute it at one input. -/
def productOutersWrong : ChangeSpec := { name := "productOuters", fn := fun _ => fun
  | [d1, d2, d3] => { results := [.lit (.bool false)], args := [d1, d2, d3] }
  | _ => none }
def ProductOutersWrongFalsely : Prop := productOutersRow.holds Tryd.pinned (OpenSpec.ofChange productOutersWrong)

/-- 'rifflelaw09.ProductItems': WHATEVER THE INPUT: true; the input reads as it did. -/
def productItemsSpec : ChangeSpec := { name := "productItems", fn := fun _ => fun
  | [d1, d2, d3] => { results := [.lit (.bool true)], args := [d1, d2, d3] }
  | _ => none }
def productItemsRow : OpenClaim := { program := "ytbanegjmapgkdaadoor", sum := "bccc672624558166b35ec2a658a60ca67b0ebabdb9147474494884780dc4eb7b", func := "riffle/rifflelaw09.ProductItems", spec := "productItems", unfollowed := true, recurses := true, named := ["riffle/scalar.traits"], apart := false, laid := [("riffle/scalar.traits", laid_riffle_scalar_traits)] }
def ProductItemsSaid : Prop := productItemsRow.holds Tryd.pinned (OpenSpec.ofChange productItemsSpec)

/-- ITS FALSE NEIGHBOUR: 'it returns false'. Refute it at one input. -/
def productItemsWrong : ChangeSpec := { name := "productItems", fn := fun _ => fun
  | [d1, d2, d3] => { results := [.lit (.bool false)], args := [d1, d2, d3] }
  | _ => none }
def ProductItemsWrongFalsely : Prop := productItemsRow.holds Tryd.pinned (OpenSpec.ofChange productItemsWrong)

/-- 'rifflelaw09.ProductTurns': WHATEVER THE INPUT: true; the input reads as it did. -/
def productTurnsSpec : ChangeSpec := { name := "productTurns", fn := fun _ => fun
  | [d1, d2, d3] => { results := [.lit (.bool true)], args := [d1, d2, d3] }
  | _ => none }
def productTurnsRow : OpenClaim := { program := "ytbanegjmapgkdaadoor", sum := "bccc672624558166b35ec2a658a60ca67b0ebabdb9147474494884780dc4eb7b", func := "riffle/rifflelaw09.ProductTurns", spec := "productTurns", unfollowed := true, recurses := true, named := ["riffle/scalar.traits"], apart := false, laid := [("riffle/scalar.traits", laid_riffle_scalar_traits)] }
def ProductTurnsSaid : Prop := productTurnsRow.holds Tryd.pinned (OpenSpec.ofChange productTurnsSpec)

/-- ITS FALSE NEIGHBOUR: 'it returns false'. Refute it at one input. -/
def productTurnsWrong : ChangeSpec := { name := "productTurns", fn := fun _ => fun
  | [d1, d2, d3] => { results := [.lit (.bool false)], args := [d1, d2, d3] }
  | _ => none }
def ProductTurnsWrongFalsely : Prop := productTurnsRow.holds Tryd.pinned (OpenSpec.ofChange productTurnsWrong)

/-- 'rifflelaw17.TokenLexes': WHATEVER THE INPUT: true; the input reads as it did. -/
def tokenLexesSpec : ChangeSpec := { name := "tokenLexes", fn := fun _ => fun
  | [d] => { results := [.lit (.bool true)], args := [d] }
  | _ => none }
def tokenLexesRow : OpenClaim := { program := "ytbanegjmapgkdaadoor", sum := "bccc672624558166b35ec2a658a60ca67b0ebabdb9147474494884780dc4eb7b", func := "riffle/rifflelaw17.TokenLexes", spec := "tokenLexes", inPlace := ["internal/bytealg.IndexByteString", "internal/bytealg.IndexString"], unfollowed := true, recurses := true, named := ["internal/bytealg.MaxLen", "unicode/utf8.first", "unicode/utf8.acceptRanges"], apart := false, laid := [("unicode/utf8.acceptRanges", laid_unicode_utf8_acceptRanges), ("unicode/utf8.first", laid_unicode_utf8_first)] }
def TokenLexesSaid : Prop := tokenLexesRow.holds Tryd.pinned (OpenSpec.ofChange tokenLexesSpec)

/-- ITS FALSE NEIGHBOUR: 'it returns false'. Refute it at one input. -/
def tokenLexesWrong : ChangeSpec := { name := "tokenLexes", fn := fun _ => fun
  | [d] => { results := [.lit (.bool false)], args := [d] }
  | _ => none }
def TokenLexesWrongFalsely : Prop := tokenLexesRow.holds Tryd.pinned (OpenSpec.ofChange tokenLexesWrong)

/-- 'rifflelaw17.TokenRises': WHATEVER THE INPUT: true; the input reads as it did. -/
def tokenRisesSpec : ChangeSpec := { name := "tokenRises", fn := fun _ => fun
  | [d] => { results := [.lit (.bool true)], args := [d] }
  | _ => none }
def tokenRisesRow : OpenClaim := { program := "ytbanegjmapgkdaadoor", sum := "bccc672624558166b35ec2a658a60ca67b0ebabdb9147474494884780dc4eb7b", func := "riffle/rifflelaw17.TokenRises", spec := "tokenRises", inPlace := ["internal/bytealg.IndexByteString", "internal/bytealg.IndexString"], unfollowed := true, recurses := true, named := ["internal/bytealg.MaxLen", "unicode/utf8.first", "unicode/utf8.acceptRanges"], apart := false, laid := [("unicode/utf8.acceptRanges", laid_unicode_utf8_acceptRanges), ("unicode/utf8.first", laid_unicode_utf8_first)] }
def TokenRisesSaid : Prop := tokenRisesRow.holds Tryd.pinned (OpenSpec.ofChange tokenRisesSpec)

/-- ITS FALSE NEIGHBOUR: 'it returns false'. Refute it at one input. -/
def tokenRisesWrong : ChangeSpec := { name := "tokenRises", fn := fun _ => fun
  | [d] => { results := [.lit (.bool false)], args := [d] }
  | _ => none }
def TokenRisesWrongFalsely : Prop := tokenRisesRow.holds Tryd.pinned (OpenSpec.ofChange tokenRisesWrong)

/-- 'rifflelaw17.TokenBlanks': WHATEVER THE INPUT: true; the input reads as it did. -/
def tokenBlanksSpec : ChangeSpec := { name := "tokenBlanks", fn := fun _ => fun
  | [d1, d2] => { results := [.lit (.bool true)], args := [d1, d2] }
  | _ => none }
def tokenBlanksRow : OpenClaim := { program := "ytbanegjmapgkdaadoor", sum := "bccc672624558166b35ec2a658a60ca67b0ebabdb9147474494884780dc4eb7b", func := "riffle/rifflelaw17.TokenBlanks", spec := "tokenBlanks", inPlace := ["internal/bytealg.IndexByteString", "internal/bytealg.IndexString"], unfollowed := true, recurses := true, named := ["internal/bytealg.MaxLen", "unicode/utf8.first", "unicode/utf8.acceptRanges"], apart := false, laid := [("unicode/utf8.acceptRanges", laid_unicode_utf8_acceptRanges), ("unicode/utf8.first", laid_unicode_utf8_first)] }
def TokenBlanksSaid : Prop := tokenBlanksRow.holds Tryd.pinned (OpenSpec.ofChange tokenBlanksSpec)

/-- ITS FALSE NEIGHBOUR: 'it returns false'. Refute it at one input. -/
def tokenBlanksWrong : ChangeSpec := { name := "tokenBlanks", fn := fun _ => fun
  | [d1, d2] => { results := [.lit (.bool false)], args := [d1, d2] }
  | _ => none }
def TokenBlanksWrongFalsely : Prop := tokenBlanksRow.holds Tryd.pinned (OpenSpec.ofChange tokenBlanksWrong)

/- THE SECOND FORM. 'bulk': how many values and letters a reading holds, each counted each time it is reached (what is shared counts as often as it is met; a slice's spare places count too). A statement '..UptoSaid' is the law's where the arguments, and the package variables that the reading takes, are together of bulk at most 1048576: NARROWER than '..Said'. Prove '..Said' where nothing that the law and all that it calls make is longer than what came in: it says more and counts as full. Else prove '..UptoSaid'. A law counts once. -/
mutual
def uptoBulk {H : Type} : DataW H → Nat
  | .lit (.string bytes) => bytes.length + 1
  | .lit _ => 1
  | .nil => 1
  | .ptr d => uptoBulk d + 1
  | .slice elems spare => uptoBulkAll elems + uptoBulkAll spare + 1
  | .agg parts => uptoBulkAll parts + 1
  | .iface _ d => uptoBulk d + 1
  | .map entries => uptoBulkEntries entries + 1
  | .held _ => 1
def uptoBulkAll {H : Type} : List (DataW H) → Nat
  | [] => 0
  | d :: r => uptoBulk d + uptoBulkAll r
def uptoBulkEntries {H : Type} : List (Lit × DataW H) → Nat
  | [] => 0
  | x :: r => uptoBulkEntry x + uptoBulkEntries r
def uptoBulkEntry {H : Type} : Lit × DataW H → Nat
  | (.string bytes, d) => bytes.length + uptoBulk d + 1
  | (_, d) => uptoBulk d + 1
 end
def uptoSmall : (H : Type) → List (DataW H) → Bool := fun _ ds => decide (uptoBulkAll ds ≤ 1048576)
def OpenSpec.upto (s : _root_.Go.ChangeSpec) : _root_.Go.OpenSpec := { _root_.Go.OpenSpec.ofChange s with cond := some uptoSmall }

/-- 'rifflelaw09.ProductInners', WHERE WHAT IT READS IS OF BULK AT MOST 1048576: true; the input reads as it did. -/
def productInnersUptoRow : OpenClaim := { program := "ytbanegjmapgkdaadoor", sum := "bccc672624558166b35ec2a658a60ca67b0ebabdb9147474494884780dc4eb7b", func := "riffle/rifflelaw09.ProductInners", spec := "productInners", unfollowed := true, recurses := true, named := ["riffle/scalar.traits"], apart := false, laid := [("riffle/scalar.traits", laid_riffle_scalar_traits)], narrowed := true }
def ProductInnersUptoSaid : Prop := productInnersUptoRow.holds Tryd.pinned (OpenSpec.upto productInnersSpec)

/-- 'rifflelaw09.ProductOuters', WHERE WHAT IT READS IS OF BULK AT MOST 1048576: true; the input reads as it did. -/
def productOutersUptoRow : OpenClaim := { program := "ytbanegjmapgkdaadoor", sum := "bccc672624558166b35ec2a658a60ca67b0ebabdb9147474494884780dc4eb7b", func := "riffle/rifflelaw09.ProductOuters", spec := "productOuters", unfollowed := true, recurses := true, named := ["riffle/scalar.traits"], apart := false, laid := [("riffle/scalar.traits", laid_riffle_scalar_traits)], narrowed := true }
def ProductOutersUptoSaid : Prop := productOutersUptoRow.holds Tryd.pinned (OpenSpec.upto productOutersSpec)

/-- 'rifflelaw09.ProductItems', WHERE WHAT IT READS IS OF BULK AT MOST 1048576: true; the input reads as it did. -/
def productItemsUptoRow : OpenClaim := { program := "ytbanegjmapgkdaadoor", sum := "bccc672624558166b35ec2a658a60ca67b0ebabdb9147474494884780dc4eb7b", func := "riffle/rifflelaw09.ProductItems", spec := "productItems", unfollowed := true, recurses := true, named := ["riffle/scalar.traits"], apart := false, laid := [("riffle/scalar.traits", laid_riffle_scalar_traits)], narrowed := true }
def ProductItemsUptoSaid : Prop := productItemsUptoRow.holds Tryd.pinned (OpenSpec.upto productItemsSpec)

/-- 'rifflelaw09.ProductTurns', WHERE WHAT IT READS IS OF BULK AT MOST 1048576: true; the input reads as it did. -/
def productTurnsUptoRow : OpenClaim := { program := "ytbanegjmapgkdaadoor", sum := "bccc672624558166b35ec2a658a60ca67b0ebabdb9147474494884780dc4eb7b", func := "riffle/rifflelaw09.ProductTurns", spec := "productTurns", unfollowed := true, recurses := true, named := ["riffle/scalar.traits"], apart := false, laid := [("riffle/scalar.traits", laid_riffle_scalar_traits)], narrowed := true }
def ProductTurnsUptoSaid : Prop := productTurnsUptoRow.holds Tryd.pinned (OpenSpec.upto productTurnsSpec)

/-- 'rifflelaw17.TokenLexes', WHERE WHAT IT READS IS OF BULK AT MOST 1048576: true; the input reads as it did. -/
def tokenLexesUptoRow : OpenClaim := { program := "ytbanegjmapgkdaadoor", sum := "bccc672624558166b35ec2a658a60ca67b0ebabdb9147474494884780dc4eb7b", func := "riffle/rifflelaw17.TokenLexes", spec := "tokenLexes", inPlace := ["internal/bytealg.IndexByteString", "internal/bytealg.IndexString"], unfollowed := true, recurses := true, named := ["internal/bytealg.MaxLen", "unicode/utf8.first", "unicode/utf8.acceptRanges"], apart := false, laid := [("unicode/utf8.acceptRanges", laid_unicode_utf8_acceptRanges), ("unicode/utf8.first", laid_unicode_utf8_first)], narrowed := true }
def TokenLexesUptoSaid : Prop := tokenLexesUptoRow.holds Tryd.pinned (OpenSpec.upto tokenLexesSpec)

/-- 'rifflelaw17.TokenRises', WHERE WHAT IT READS IS OF BULK AT MOST 1048576: true; the input reads as it did. -/
def tokenRisesUptoRow : OpenClaim := { program := "ytbanegjmapgkdaadoor", sum := "bccc672624558166b35ec2a658a60ca67b0ebabdb9147474494884780dc4eb7b", func := "riffle/rifflelaw17.TokenRises", spec := "tokenRises", inPlace := ["internal/bytealg.IndexByteString", "internal/bytealg.IndexString"], unfollowed := true, recurses := true, named := ["internal/bytealg.MaxLen", "unicode/utf8.first", "unicode/utf8.acceptRanges"], apart := false, laid := [("unicode/utf8.acceptRanges", laid_unicode_utf8_acceptRanges), ("unicode/utf8.first", laid_unicode_utf8_first)], narrowed := true }
def TokenRisesUptoSaid : Prop := tokenRisesUptoRow.holds Tryd.pinned (OpenSpec.upto tokenRisesSpec)

/-- 'rifflelaw17.TokenBlanks', WHERE WHAT IT READS IS OF BULK AT MOST 1048576: true; the input reads as it did. -/
def tokenBlanksUptoRow : OpenClaim := { program := "ytbanegjmapgkdaadoor", sum := "bccc672624558166b35ec2a658a60ca67b0ebabdb9147474494884780dc4eb7b", func := "riffle/rifflelaw17.TokenBlanks", spec := "tokenBlanks", inPlace := ["internal/bytealg.IndexByteString", "internal/bytealg.IndexString"], unfollowed := true, recurses := true, named := ["internal/bytealg.MaxLen", "unicode/utf8.first", "unicode/utf8.acceptRanges"], apart := false, laid := [("unicode/utf8.acceptRanges", laid_unicode_utf8_acceptRanges), ("unicode/utf8.first", laid_unicode_utf8_first)], narrowed := true }
def TokenBlanksUptoSaid : Prop := tokenBlanksUptoRow.holds Tryd.pinned (OpenSpec.upto tokenBlanksSpec)

end Rows
end Go.Proofs.YtbanegjmapgkdaaDoor
