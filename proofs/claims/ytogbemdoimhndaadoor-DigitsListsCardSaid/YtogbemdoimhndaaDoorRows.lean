/-
  NARROWER THAN 'FOR EVERY INPUT', by the rows' own cells (each row's printed sentence says how): ProductInners: laid · ProductOuters: laid · ProductItems: laid · ProductTurns: laid · DigitsTells: laid · DigitsWords: laid · DigitsLists: laid · RunnerPlays: laid · RunnerApart: laid · RunnerHangs: laid.
  DERIVED. THE GIVEN ROWS OF THIS SEAT. 10 by the template 'for every input the law returns true; each argument reads behind the call as it read before'; 0 by the template 'total and deterministic' (their statements: YtogbemdoimhndaaDoorTotals.lean).
  GIVEN WITH THE SEED: the statements are not yours to turn. If you find one false, say at which input.
  Laid BY PROGRAM, IN A SANDBOX (cutbox-rows.mjs): the forced cells as the released guide's own fill.sh prints them over the translation 2f919a2ab467a7ed… (all of the seat's roots in one cut). By AI agents, Wed Nov 11 2026. No macro, syntax, notation, axiom, sorry.
-/
import Derived.Test.YtogbemdoimhndaaDoorChecked
import GoSem.Claim
import GoSem.ClaimJoined
import GoSem.ClaimMapViews
import Derived.JoinedTies
import Derived.KernelRfl
namespace Go.Proofs.YtogbemdoimhndaaDoor
/- THE CELL 'sum', in the pinned program and in every row, IS THE sha256 OF THE DUMP (.gsa) THAT YtogbemdoimhndaaDoorProg.lean LOADS. Nothing in Lean hashes anything: it is a label: what it is worth is what the hold of that sum in a sandbox is worth. -/
noncomputable def Tryd.pinned : Pinned := { name := "ytogbemdoimhndaadoor", sum := "2f919a2ab467a7edbdb32179fe95cb4a2b7a2e9b9fbcb1dbcdee153684728f1d", checked := Tryd.checked }
namespace Rows
def none {H : Type} : Left H := { results := [], args := [] }

/- WHAT THE LISTED PACKAGE-LEVEL VARIABLES READ AS WHEN THE CALL BEGINS. Each datum BY PROGRAM (the guide's laid-datum.mjs) off the statement by which the dump's own 'gosem.cut.vars' lays the variable. In a bare row this is a premise. The card (YtogbemdoimhndaaDoorCards.lean) ties it to the program's text. -/
def laid_riffle_scalar_traits {H : Type} : DataW H := .agg [.agg [.lit (.bool false), .lit (.bool false), .lit (.bool false), .lit (.int .i64 0), .lit (.bool false), .lit (.bool false)], .agg [.lit (.bool true), .lit (.bool true), .lit (.bool true), .lit (.int .i64 0), .lit (.bool true), .lit (.bool false)], .agg [.lit (.bool true), .lit (.bool true), .lit (.bool true), .lit (.int .i64 0), .lit (.bool false), .lit (.bool false)], .agg [.lit (.bool true), .lit (.bool true), .lit (.bool true), .lit (.int .i64 1), .lit (.bool true), .lit (.bool false)], .agg [.lit (.bool true), .lit (.bool true), .lit (.bool true), .lit (.int .i64 1), .lit (.bool false), .lit (.bool false)], .agg [.lit (.bool true), .lit (.bool true), .lit (.bool true), .lit (.int .i64 1), .lit (.bool false), .lit (.bool false)], .agg [.lit (.bool true), .lit (.bool true), .lit (.bool true), .lit (.int .i64 0), .lit (.bool false), .lit (.bool false)], .agg [.lit (.bool false), .lit (.bool true), .lit (.bool true), .lit (.int .i64 (-9223372036854775808)), .lit (.bool true), .lit (.bool true)], .agg [.lit (.bool false), .lit (.bool true), .lit (.bool true), .lit (.int .i64 9223372036854775807), .lit (.bool true), .lit (.bool true)], .agg [.lit (.bool false), .lit (.bool true), .lit (.bool true), .lit (.int .i64 1), .lit (.bool false), .lit (.bool false)], .agg [.lit (.bool false), .lit (.bool true), .lit (.bool true), .lit (.int .i64 0), .lit (.bool false), .lit (.bool false)], .agg [.lit (.bool false), .lit (.bool true), .lit (.bool true), .lit (.int .i64 0), .lit (.bool false), .lit (.bool false)], .agg [.lit (.bool false), .lit (.bool true), .lit (.bool true), .lit (.int .i64 1), .lit (.bool false), .lit (.bool false)], .agg [.lit (.bool false), .lit (.bool true), .lit (.bool true), .lit (.int .i64 0), .lit (.bool false), .lit (.bool false)], .agg [.lit (.bool false), .lit (.bool true), .lit (.bool true), .lit (.int .i64 1), .lit (.bool false), .lit (.bool false)], .agg [.lit (.bool false), .lit (.bool true), .lit (.bool true), .lit (.int .i64 (-1)), .lit (.bool true), .lit (.bool false)], .agg [.lit (.bool false), .lit (.bool true), .lit (.bool true), .lit (.int .i64 0), .lit (.bool true), .lit (.bool false)], .agg [.lit (.bool true), .lit (.bool true), .lit (.bool false), .lit (.int .i64 0), .lit (.bool true), .lit (.bool false)], .agg [.lit (.bool true), .lit (.bool true), .lit (.bool false), .lit (.int .i64 0), .lit (.bool true), .lit (.bool false)], .agg [.lit (.bool true), .lit (.bool false), .lit (.bool false), .lit (.int .i64 0), .lit (.bool false), .lit (.bool false)]]
def laid_math_bits_deBruijn32tab {H : Type} : DataW H := .agg [.lit (.int .u8 0), .lit (.int .u8 1), .lit (.int .u8 28), .lit (.int .u8 2), .lit (.int .u8 29), .lit (.int .u8 14), .lit (.int .u8 24), .lit (.int .u8 3), .lit (.int .u8 30), .lit (.int .u8 22), .lit (.int .u8 20), .lit (.int .u8 15), .lit (.int .u8 25), .lit (.int .u8 17), .lit (.int .u8 4), .lit (.int .u8 8), .lit (.int .u8 31), .lit (.int .u8 27), .lit (.int .u8 13), .lit (.int .u8 23), .lit (.int .u8 21), .lit (.int .u8 19), .lit (.int .u8 16), .lit (.int .u8 7), .lit (.int .u8 26), .lit (.int .u8 12), .lit (.int .u8 18), .lit (.int .u8 6), .lit (.int .u8 11), .lit (.int .u8 5), .lit (.int .u8 10), .lit (.int .u8 9)]
def laid_math_bits_deBruijn64tab {H : Type} : DataW H := .agg [.lit (.int .u8 0), .lit (.int .u8 1), .lit (.int .u8 56), .lit (.int .u8 2), .lit (.int .u8 57), .lit (.int .u8 49), .lit (.int .u8 28), .lit (.int .u8 3), .lit (.int .u8 61), .lit (.int .u8 58), .lit (.int .u8 42), .lit (.int .u8 50), .lit (.int .u8 38), .lit (.int .u8 29), .lit (.int .u8 17), .lit (.int .u8 4), .lit (.int .u8 62), .lit (.int .u8 47), .lit (.int .u8 59), .lit (.int .u8 36), .lit (.int .u8 45), .lit (.int .u8 43), .lit (.int .u8 51), .lit (.int .u8 22), .lit (.int .u8 53), .lit (.int .u8 39), .lit (.int .u8 33), .lit (.int .u8 30), .lit (.int .u8 24), .lit (.int .u8 18), .lit (.int .u8 12), .lit (.int .u8 5), .lit (.int .u8 63), .lit (.int .u8 55), .lit (.int .u8 48), .lit (.int .u8 27), .lit (.int .u8 60), .lit (.int .u8 41), .lit (.int .u8 37), .lit (.int .u8 16), .lit (.int .u8 46), .lit (.int .u8 35), .lit (.int .u8 44), .lit (.int .u8 21), .lit (.int .u8 52), .lit (.int .u8 32), .lit (.int .u8 23), .lit (.int .u8 11), .lit (.int .u8 54), .lit (.int .u8 26), .lit (.int .u8 40), .lit (.int .u8 15), .lit (.int .u8 34), .lit (.int .u8 20), .lit (.int .u8 31), .lit (.int .u8 10), .lit (.int .u8 25), .lit (.int .u8 14), .lit (.int .u8 19), .lit (.int .u8 9), .lit (.int .u8 13), .lit (.int .u8 8), .lit (.int .u8 7), .lit (.int .u8 6)]
def laid_internal_strconv_uint64pow10 {H : Type} : DataW H := .agg [.lit (.int .u64 1), .lit (.int .u64 10), .lit (.int .u64 100), .lit (.int .u64 1000), .lit (.int .u64 10000), .lit (.int .u64 100000), .lit (.int .u64 1000000), .lit (.int .u64 10000000), .lit (.int .u64 100000000), .lit (.int .u64 1000000000), .lit (.int .u64 10000000000), .lit (.int .u64 100000000000), .lit (.int .u64 1000000000000), .lit (.int .u64 10000000000000), .lit (.int .u64 100000000000000), .lit (.int .u64 1000000000000000), .lit (.int .u64 10000000000000000), .lit (.int .u64 100000000000000000), .lit (.int .u64 1000000000000000000), .lit (.int .u64 10000000000000000000)]

/-- 'rifflelaw09.ProductInners': WHATEVER THE INPUT: true; the input reads as it did. -/
def productInnersSpec : ChangeSpec := { name := "productInners", fn := fun _ => fun
  | [d1, d2, d3] => { results := [.lit (.bool true)], args := [d1, d2, d3] }
  | _ => none }
def productInnersRow : OpenClaim := { program := "ytogbemdoimhndaadoor", sum := "2f919a2ab467a7edbdb32179fe95cb4a2b7a2e9b9fbcb1dbcdee153684728f1d", func := "riffle/rifflelaw09.ProductInners", spec := "productInners", unfollowed := true, recurses := true, named := ["riffle/scalar.traits"], apart := false, laid := [("riffle/scalar.traits", laid_riffle_scalar_traits)] }
def ProductInnersSaid : Prop := productInnersRow.holds Tryd.pinned (OpenSpec.ofChange productInnersSpec)

/-- ITS FALSE NEIGHBOUR: 'it returns false'. Refute it at one input. -/
def productInnersWrong : ChangeSpec := { name := "productInners", fn := fun _ => fun
  | [d1, d2, d3] => { results := [.lit (.bool false)], args := [d1, d2, d3] }
  | _ => none }
def ProductInnersWrongFalsely : Prop := productInnersRow.holds Tryd.pinned (OpenSpec.ofChange productInnersWrong)

/-- 'rifflelaw09.ProductOuters': WHATEVER THE INPUT: true; the input reads as it did. -/
def productOutersSpec : ChangeSpec := { name := "productOuters", fn := fun _ => fun
  | [d1, d2, d3] => { results := [.lit (.bool true)], args := [d1, d2, d3] }
  | _ => none }
def productOutersRow : OpenClaim := { program := "ytogbemdoimhndaadoor", sum := "2f919a2ab467a7edbdb32179fe95cb4a2b7a2e9b9fbcb1dbcdee153684728f1d", func := "riffle/rifflelaw09.ProductOuters", spec := "productOuters", unfollowed := true, recurses := true, named := ["riffle/scalar.traits"], apart := false, laid := [("riffle/scalar.traits", laid_riffle_scalar_traits)] }
def ProductOutersSaid : Prop := productOutersRow.holds Tryd.pinned (OpenSpec.ofChange productOutersSpec)

/-- ITS FALSE NEIGHBOUR: 'it returns false'. Refute it at one input. -/
def productOutersWrong : ChangeSpec := { name := "productOuters", fn := fun _ => fun
  | [d1, d2, d3] => { results := [.lit (.bool false)], args := [d1, d2, d3] }
  | _ => none }
def ProductOutersWrongFalsely : Prop := productOutersRow.holds Tryd.pinned (OpenSpec.ofChange productOutersWrong)

/-- 'rifflelaw09.ProductItems': WHATEVER THE INPUT: true; the input reads as it did. -/
def productItemsSpec : ChangeSpec := { name := "productItems", fn := fun _ => fun
  | [d1, d2, d3] => { results := [.lit (.bool true)], args := [d1, d2, d3] }
  | _ => none }
def productItemsRow : OpenClaim := { program := "ytogbemdoimhndaadoor", sum := "2f919a2ab467a7edbdb32179fe95cb4a2b7a2e9b9fbcb1dbcdee153684728f1d", func := "riffle/rifflelaw09.ProductItems", spec := "productItems", unfollowed := true, recurses := true, named := ["riffle/scalar.traits"], apart := false, laid := [("riffle/scalar.traits", laid_riffle_scalar_traits)] }
def ProductItemsSaid : Prop := productItemsRow.holds Tryd.pinned (OpenSpec.ofChange productItemsSpec)

/-- ITS FALSE NEIGHBOUR: 'it returns false'. Refute it at one input. -/
def productItemsWrong : ChangeSpec := { name := "productItems", fn := fun _ => fun
  | [d1, d2, d3] => { results := [.lit (.bool false)], args := [d1, d2, d3] }
  | _ => none }
def ProductItemsWrongFalsely : Prop := productItemsRow.holds Tryd.pinned (OpenSpec.ofChange productItemsWrong)

/-- 'rifflelaw09.ProductTurns': WHATEVER THE INPUT: true; the input reads as it did. -/
def productTurnsSpec : ChangeSpec := { name := "productTurns", fn := fun _ => fun
  | [d1, d2, d3] => { results := [.lit (.bool true)], args := [d1, d2, d3] }
  | _ => none }
def productTurnsRow : OpenClaim := { program := "ytogbemdoimhndaadoor", sum := "2f919a2ab467a7edbdb32179fe95cb4a2b7a2e9b9fbcb1dbcdee153684728f1d", func := "riffle/rifflelaw09.ProductTurns", spec := "productTurns", unfollowed := true, recurses := true, named := ["riffle/scalar.traits"], apart := false, laid := [("riffle/scalar.traits", laid_riffle_scalar_traits)] }
def ProductTurnsSaid : Prop := productTurnsRow.holds Tryd.pinned (OpenSpec.ofChange productTurnsSpec)

/-- ITS FALSE NEIGHBOUR: 'it returns false'. Refute it at one input. -/
def productTurnsWrong : ChangeSpec := { name := "productTurns", fn := fun _ => fun
  | [d1, d2, d3] => { results := [.lit (.bool false)], args := [d1, d2, d3] }
  | _ => none }
def ProductTurnsWrongFalsely : Prop := productTurnsRow.holds Tryd.pinned (OpenSpec.ofChange productTurnsWrong)

/-- 'rifflelaw10.DigitsTells': WHATEVER THE INPUT: true; the input reads as it did. -/
def digitsTellsSpec : ChangeSpec := { name := "digitsTells", fn := fun _ => fun
  | [d1, d2] => { results := [.lit (.bool true)], args := [d1, d2] }
  | _ => none }
def digitsTellsRow : OpenClaim := { program := "ytogbemdoimhndaadoor", sum := "2f919a2ab467a7edbdb32179fe95cb4a2b7a2e9b9fbcb1dbcdee153684728f1d", func := "riffle/rifflelaw10.DigitsTells", spec := "digitsTells", recurses := true, named := ["internal/strconv.uint64pow10", "math/bits.deBruijn32tab", "math/bits.deBruijn64tab"], apart := false, laid := [("math/bits.deBruijn32tab", laid_math_bits_deBruijn32tab), ("math/bits.deBruijn64tab", laid_math_bits_deBruijn64tab), ("internal/strconv.uint64pow10", laid_internal_strconv_uint64pow10)] }
def DigitsTellsSaid : Prop := digitsTellsRow.holds Tryd.pinned (OpenSpec.ofChange digitsTellsSpec)

/-- ITS FALSE NEIGHBOUR: 'it returns false'. Refute it at one input. -/
def digitsTellsWrong : ChangeSpec := { name := "digitsTells", fn := fun _ => fun
  | [d1, d2] => { results := [.lit (.bool false)], args := [d1, d2] }
  | _ => none }
def DigitsTellsWrongFalsely : Prop := digitsTellsRow.holds Tryd.pinned (OpenSpec.ofChange digitsTellsWrong)

/-- 'rifflelaw10.DigitsWords': WHATEVER THE INPUT: true; the input reads as it did. -/
def digitsWordsSpec : ChangeSpec := { name := "digitsWords", fn := fun _ => fun
  | [d1, d2] => { results := [.lit (.bool true)], args := [d1, d2] }
  | _ => none }
def digitsWordsRow : OpenClaim := { program := "ytogbemdoimhndaadoor", sum := "2f919a2ab467a7edbdb32179fe95cb4a2b7a2e9b9fbcb1dbcdee153684728f1d", func := "riffle/rifflelaw10.DigitsWords", spec := "digitsWords", recurses := true, named := ["internal/strconv.uint64pow10", "math/bits.deBruijn32tab", "math/bits.deBruijn64tab"], apart := false, laid := [("math/bits.deBruijn32tab", laid_math_bits_deBruijn32tab), ("math/bits.deBruijn64tab", laid_math_bits_deBruijn64tab), ("internal/strconv.uint64pow10", laid_internal_strconv_uint64pow10)] }
def DigitsWordsSaid : Prop := digitsWordsRow.holds Tryd.pinned (OpenSpec.ofChange digitsWordsSpec)

/-- ITS FALSE NEIGHBOUR: 'it returns false'. Refute it at one input. -/
def digitsWordsWrong : ChangeSpec := { name := "digitsWords", fn := fun _ => fun
  | [d1, d2] => { results := [.lit (.bool false)], args := [d1, d2] }
  | _ => none }
def DigitsWordsWrongFalsely : Prop := digitsWordsRow.holds Tryd.pinned (OpenSpec.ofChange digitsWordsWrong)

/-- 'rifflelaw10.DigitsLists': WHATEVER THE INPUT: true; the input reads as it did. -/
def digitsListsSpec : ChangeSpec := { name := "digitsLists", fn := fun _ => fun
  | [d] => { results := [.lit (.bool true)], args := [d] }
  | _ => none }
def digitsListsRow : OpenClaim := { program := "ytogbemdoimhndaadoor", sum := "2f919a2ab467a7edbdb32179fe95cb4a2b7a2e9b9fbcb1dbcdee153684728f1d", func := "riffle/rifflelaw10.DigitsLists", spec := "digitsLists", named := ["internal/strconv.uint64pow10", "math/bits.deBruijn32tab", "math/bits.deBruijn64tab"], apart := false, laid := [("math/bits.deBruijn32tab", laid_math_bits_deBruijn32tab), ("math/bits.deBruijn64tab", laid_math_bits_deBruijn64tab), ("internal/strconv.uint64pow10", laid_internal_strconv_uint64pow10)] }
def DigitsListsSaid : Prop := digitsListsRow.holds Tryd.pinned (OpenSpec.ofChange digitsListsSpec)

/-- ITS FALSE NEIGHBOUR: 'it returns false'. Refute it at one input. -/
def digitsListsWrong : ChangeSpec := { name := "digitsLists", fn := fun _ => fun
  | [d] => { results := [.lit (.bool false)], args := [d] }
  | _ => none }
def DigitsListsWrongFalsely : Prop := digitsListsRow.holds Tryd.pinned (OpenSpec.ofChange digitsListsWrong)

/-- 'rifflelaw14.RunnerPlays': WHATEVER THE INPUT: true; the input reads as it did. -/
def runnerPlaysSpec : ChangeSpec := { name := "runnerPlays", fn := fun _ => fun
  | [d1, d2, d3] => { results := [.lit (.bool true)], args := [d1, d2, d3] }
  | _ => none }
def runnerPlaysRow : OpenClaim := { program := "ytogbemdoimhndaadoor", sum := "2f919a2ab467a7edbdb32179fe95cb4a2b7a2e9b9fbcb1dbcdee153684728f1d", func := "riffle/rifflelaw14.RunnerPlays", spec := "runnerPlays", unfollowed := true, recurses := true, named := ["riffle/scalar.traits"], apart := false, laid := [("riffle/scalar.traits", laid_riffle_scalar_traits)] }
def RunnerPlaysSaid : Prop := runnerPlaysRow.holds Tryd.pinned (OpenSpec.ofChange runnerPlaysSpec)

/-- ITS FALSE NEIGHBOUR: 'it returns false'. Refute it at one input. -/
def runnerPlaysWrong : ChangeSpec := { name := "runnerPlays", fn := fun _ => fun
  | [d1, d2, d3] => { results := [.lit (.bool false)], args := [d1, d2, d3] }
  | _ => none }
def RunnerPlaysWrongFalsely : Prop := runnerPlaysRow.holds Tryd.pinned (OpenSpec.ofChange runnerPlaysWrong)

/-- 'rifflelaw14.RunnerApart': WHATEVER THE INPUT: true; the input reads as it did. -/
def runnerApartSpec : ChangeSpec := { name := "runnerApart", fn := fun _ => fun
  | [d1, d2, d3] => { results := [.lit (.bool true)], args := [d1, d2, d3] }
  | _ => none }
def runnerApartRow : OpenClaim := { program := "ytogbemdoimhndaadoor", sum := "2f919a2ab467a7edbdb32179fe95cb4a2b7a2e9b9fbcb1dbcdee153684728f1d", func := "riffle/rifflelaw14.RunnerApart", spec := "runnerApart", unfollowed := true, recurses := true, named := ["riffle/scalar.traits"], apart := false, laid := [("riffle/scalar.traits", laid_riffle_scalar_traits)] }
def RunnerApartSaid : Prop := runnerApartRow.holds Tryd.pinned (OpenSpec.ofChange runnerApartSpec)

/-- ITS FALSE NEIGHBOUR: 'it returns false'. Refute it at one input. -/
def runnerApartWrong : ChangeSpec := { name := "runnerApart", fn := fun _ => fun
  | [d1, d2, d3] => { results := [.lit (.bool false)], args := [d1, d2, d3] }
  | _ => none }
def RunnerApartWrongFalsely : Prop := runnerApartRow.holds Tryd.pinned (OpenSpec.ofChange runnerApartWrong)

/-- 'rifflelaw14.RunnerHangs': WHATEVER THE INPUT: true; the input reads as it did. -/
def runnerHangsSpec : ChangeSpec := { name := "runnerHangs", fn := fun _ => fun
  | [d1, d2, d3] => { results := [.lit (.bool true)], args := [d1, d2, d3] }
  | _ => none }
def runnerHangsRow : OpenClaim := { program := "ytogbemdoimhndaadoor", sum := "2f919a2ab467a7edbdb32179fe95cb4a2b7a2e9b9fbcb1dbcdee153684728f1d", func := "riffle/rifflelaw14.RunnerHangs", spec := "runnerHangs", unfollowed := true, recurses := true, named := ["riffle/scalar.traits"], apart := false, laid := [("riffle/scalar.traits", laid_riffle_scalar_traits)] }
def RunnerHangsSaid : Prop := runnerHangsRow.holds Tryd.pinned (OpenSpec.ofChange runnerHangsSpec)

/-- ITS FALSE NEIGHBOUR: 'it returns false'. Refute it at one input. -/
def runnerHangsWrong : ChangeSpec := { name := "runnerHangs", fn := fun _ => fun
  | [d1, d2, d3] => { results := [.lit (.bool false)], args := [d1, d2, d3] }
  | _ => none }
def RunnerHangsWrongFalsely : Prop := runnerHangsRow.holds Tryd.pinned (OpenSpec.ofChange runnerHangsWrong)

/- THE SECOND FORM. 'bulk': how many values and letters a reading holds, each counted each time it is reached (what is shared counts as often as it is met; a slice's spare places count too). A statement '..UptoSaid' is the law's where the arguments, and the package variables that the reading takes, are together of bulk at most 1048576: NARROWER than '..Said'. Prove '..Said' where nothing that the law and all that it calls make is longer than what came in: it says more and counts as full. Else prove '..UptoSaid'. A law counts once. -/
mutual
def uptoBulk {H : Type} : DataW H → Nat
  | .lit (.string bytes) => bytes.length + 1
  | .lit _ => 1
  | .nil => 1
  | .ptr d => uptoBulk d + 1
  | .slice elems spare => uptoBulkAll elems + uptoBulkAll spare + 1
  | .agg parts => uptoBulkAll parts + 1
  | .iface _ d => uptoBulk d + 1
  | .map entries => uptoBulkEntries entries + 1
  | .held _ => 1
def uptoBulkAll {H : Type} : List (DataW H) → Nat
  | [] => 0
  | d :: r => uptoBulk d + uptoBulkAll r
def uptoBulkEntries {H : Type} : List (Lit × DataW H) → Nat
  | [] => 0
  | x :: r => uptoBulkEntry x + uptoBulkEntries r
def uptoBulkEntry {H : Type} : Lit × DataW H → Nat
  | (.string bytes, d) => bytes.length + uptoBulk d + 1
  | (_, d) => uptoBulk d + 1
 end
def uptoSmall : (H : Type) → List (DataW H) → Bool := fun _ ds => decide (uptoBulkAll ds ≤ 1048576)
def OpenSpec.upto (s : _root_.Go.ChangeSpec) : _root_.Go.OpenSpec := { _root_.Go.OpenSpec.ofChange s with cond := some uptoSmall }

/-- 'rifflelaw09.ProductInners', WHERE WHAT IT READS IS OF BULK AT MOST 1048576: true; the input reads as it did. -/
def productInnersUptoRow : OpenClaim := { program := "ytogbemdoimhndaadoor", sum := "2f919a2ab467a7edbdb32179fe95cb4a2b7a2e9b9fbcb1dbcdee153684728f1d", func := "riffle/rifflelaw09.ProductInners", spec := "productInners", unfollowed := true, recurses := true, named := ["riffle/scalar.traits"], apart := false, laid := [("riffle/scalar.traits", laid_riffle_scalar_traits)], narrowed := true }
def ProductInnersUptoSaid : Prop := productInnersUptoRow.holds Tryd.pinned (OpenSpec.upto productInnersSpec)

/-- 'rifflelaw09.ProductOuters', WHERE WHAT IT READS IS OF BULK AT MOST 1048576: true; the input reads as it did. -/
def productOutersUptoRow : OpenClaim := { program := "ytogbemdoimhndaadoor", sum := "2f919a2ab467a7edbdb32179fe95cb4a2b7a2e9b9fbcb1dbcdee153684728f1d", func := "riffle/rifflelaw09.ProductOuters", spec := "productOuters", unfollowed := true, recurses := true, named := ["riffle/scalar.traits"], apart := false, laid := [("riffle/scalar.traits", laid_riffle_scalar_traits)], narrowed := true }
def ProductOutersUptoSaid : Prop := productOutersUptoRow.holds Tryd.pinned (OpenSpec.upto productOutersSpec)

/-- 'rifflelaw09.ProductItems', WHERE WHAT IT READS IS OF BULK AT MOST 1048576: true; the input reads as it did. -/
def productItemsUptoRow : OpenClaim := { program := "ytogbemdoimhndaadoor", sum := "2f919a2ab467a7edbdb32179fe95cb4a2b7a2e9b9fbcb1dbcdee153684728f1d", func := "riffle/rifflelaw09.ProductItems", spec := "productItems", unfollowed := true, recurses := true, named := ["riffle/scalar.traits"], apart := false, laid := [("riffle/scalar.traits", laid_riffle_scalar_traits)], narrowed := true }
def ProductItemsUptoSaid : Prop := productItemsUptoRow.holds Tryd.pinned (OpenSpec.upto productItemsSpec)

/-- 'rifflelaw09.ProductTurns', WHERE WHAT IT READS IS OF BULK AT MOST 1048576: true; the input reads as it did. -/
def productTurnsUptoRow : OpenClaim := { program := "ytogbemdoimhndaadoor", sum := "2f919a2ab467a7edbdb32179fe95cb4a2b7a2e9b9fbcb1dbcdee153684728f1d", func := "riffle/rifflelaw09.ProductTurns", spec := "productTurns", unfollowed := true, recurses := true, named := ["riffle/scalar.traits"], apart := false, laid := [("riffle/scalar.traits", laid_riffle_scalar_traits)], narrowed := true }
def ProductTurnsUptoSaid : Prop := productTurnsUptoRow.holds Tryd.pinned (OpenSpec.upto productTurnsSpec)

/-- 'rifflelaw10.DigitsTells', WHERE WHAT IT READS IS OF BULK AT MOST 1048576: true; the input reads as it did. -/
def digitsTellsUptoRow : OpenClaim := { program := "ytogbemdoimhndaadoor", sum := "2f919a2ab467a7edbdb32179fe95cb4a2b7a2e9b9fbcb1dbcdee153684728f1d", func := "riffle/rifflelaw10.DigitsTells", spec := "digitsTells", recurses := true, named := ["internal/strconv.uint64pow10", "math/bits.deBruijn32tab", "math/bits.deBruijn64tab"], apart := false, laid := [("math/bits.deBruijn32tab", laid_math_bits_deBruijn32tab), ("math/bits.deBruijn64tab", laid_math_bits_deBruijn64tab), ("internal/strconv.uint64pow10", laid_internal_strconv_uint64pow10)], narrowed := true }
def DigitsTellsUptoSaid : Prop := digitsTellsUptoRow.holds Tryd.pinned (OpenSpec.upto digitsTellsSpec)

/-- 'rifflelaw10.DigitsWords', WHERE WHAT IT READS IS OF BULK AT MOST 1048576: true; the input reads as it did. -/
def digitsWordsUptoRow : OpenClaim := { program := "ytogbemdoimhndaadoor", sum := "2f919a2ab467a7edbdb32179fe95cb4a2b7a2e9b9fbcb1dbcdee153684728f1d", func := "riffle/rifflelaw10.DigitsWords", spec := "digitsWords", recurses := true, named := ["internal/strconv.uint64pow10", "math/bits.deBruijn32tab", "math/bits.deBruijn64tab"], apart := false, laid := [("math/bits.deBruijn32tab", laid_math_bits_deBruijn32tab), ("math/bits.deBruijn64tab", laid_math_bits_deBruijn64tab), ("internal/strconv.uint64pow10", laid_internal_strconv_uint64pow10)], narrowed := true }
def DigitsWordsUptoSaid : Prop := digitsWordsUptoRow.holds Tryd.pinned (OpenSpec.upto digitsWordsSpec)

/-- 'rifflelaw10.DigitsLists', WHERE WHAT IT READS IS OF BULK AT MOST 1048576: true; the input reads as it did. -/
def digitsListsUptoRow : OpenClaim := { program := "ytogbemdoimhndaadoor", sum := "2f919a2ab467a7edbdb32179fe95cb4a2b7a2e9b9fbcb1dbcdee153684728f1d", func := "riffle/rifflelaw10.DigitsLists", spec := "digitsLists", named := ["internal/strconv.uint64pow10", "math/bits.deBruijn32tab", "math/bits.deBruijn64tab"], apart := false, laid := [("math/bits.deBruijn32tab", laid_math_bits_deBruijn32tab), ("math/bits.deBruijn64tab", laid_math_bits_deBruijn64tab), ("internal/strconv.uint64pow10", laid_internal_strconv_uint64pow10)], narrowed := true }
def DigitsListsUptoSaid : Prop := digitsListsUptoRow.holds Tryd.pinned (OpenSpec.upto digitsListsSpec)

/-- 'rifflelaw14.RunnerPlays', WHERE WHAT IT READS IS OF BULK AT MOST 1048576: true; the input reads as it did. -/
def runnerPlaysUptoRow : OpenClaim := { program := "ytogbemdoimhndaadoor", sum := "2f919a2ab467a7edbdb32179fe95cb4a2b7a2e9b9fbcb1dbcdee153684728f1d", func := "riffle/rifflelaw14.RunnerPlays", spec := "runnerPlays", unfollowed := true, recurses := true, named := ["riffle/scalar.traits"], apart := false, laid := [("riffle/scalar.traits", laid_riffle_scalar_traits)], narrowed := true }
def RunnerPlaysUptoSaid : Prop := runnerPlaysUptoRow.holds Tryd.pinned (OpenSpec.upto runnerPlaysSpec)

/-- 'rifflelaw14.RunnerApart', WHERE WHAT IT READS IS OF BULK AT MOST 1048576: true; the input reads as it did. -/
def runnerApartUptoRow : OpenClaim := { program := "ytogbemdoimhndaadoor", sum := "2f919a2ab467a7edbdb32179fe95cb4a2b7a2e9b9fbcb1dbcdee153684728f1d", func := "riffle/rifflelaw14.RunnerApart", spec := "runnerApart", unfollowed := true, recurses := true, named := ["riffle/scalar.traits"], apart := false, laid := [("riffle/scalar.traits", laid_riffle_scalar_traits)], narrowed := true }
def RunnerApartUptoSaid : Prop := runnerApartUptoRow.holds Tryd.pinned (OpenSpec.upto runnerApartSpec)

/-- 'rifflelaw14.RunnerHangs', WHERE WHAT IT READS IS OF BULK AT MOST 1048576: true; the input reads as it did. -/
def runnerHangsUptoRow : OpenClaim := { program := "ytogbemdoimhndaadoor", sum := "2f919a2ab467a7edbdb32179fe95cb4a2b7a2e9b9fbcb1dbcdee153684728f1d", func := "riffle/rifflelaw14.RunnerHangs", spec := "runnerHangs", unfollowed := true, recurses := true, named := ["riffle/scalar.traits"], apart := false, laid := [("riffle/scalar.traits", laid_riffle_scalar_traits)], narrowed := true }
def RunnerHangsUptoSaid : Prop := runnerHangsUptoRow.holds Tryd.pinned (OpenSpec.upto runnerHangsSpec)

end Rows
end Go.Proofs.YtogbemdoimhndaaDoor
