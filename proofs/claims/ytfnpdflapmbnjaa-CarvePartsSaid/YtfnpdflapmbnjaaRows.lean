/-
  No cell of these rows narrows 'for every input' (looked for: loops, veiled, ifaces, maps, wideKeys, modest, calm, conditions, laid).
  DERIVED. THE GIVEN ROWS OF THIS SEAT. 7 by the template 'for every input the law returns true; each argument reads behind the call as it read before'; 0 by the template 'total and deterministic' (their statements: YtfnpdflapmbnjaaTotals.lean).
  GIVEN WITH THE SEED: the statements are not yours to turn. If you find one false, say at which input.
  Laid BY PROGRAM, IN A SANDBOX (cutbox-rows.mjs): the forced cells as the released guide's own fill.sh prints them over the translation 2a82b6f37e2706f1… (all of the seat's roots in one cut). By AI agents, Wed Nov 11 2026. No macro, syntax, notation, axiom, sorry.
-/
import Derived.Test.YtfnpdflapmbnjaaChecked
import GoSem.Claim
import GoSem.ClaimJoined
import GoSem.ClaimMapViews
import Derived.JoinedTies
import Derived.KernelRfl
namespace Go.Proofs.Ytfnpdflapmbnjaa
/- THE CELL 'sum', in the pinned program and in every row, IS THE sha256 OF THE DUMP (.gsa) THAT YtfnpdflapmbnjaaProg.lean LOADS. Nothing in Lean hashes anything: it is a label: what it is worth is what the hold of that sum in a sandbox is worth. -/
noncomputable def Try.pinned : Pinned := { name := "ytfnpdflapmbnjaa", sum := "2a82b6f37e2706f16430afe2545c0012c0beaeffd13711da6e69b6d9d78dd78a", checked := Try.checked }
namespace Rows
def none {H : Type} : Left H := { results := [], args := [] }

/-- 'rifflelaw06.MoldCopies': WHATEVER THE INPUT: true; the input reads as it did. -/
def moldCopiesSpec : ChangeSpec := { name := "moldCopies", fn := fun _ => fun
  | [d1, d2, d3] => { results := [.lit (.bool true)], args := [d1, d2, d3] }
  | _ => none }
def moldCopiesRow : OpenClaim := { program := "ytfnpdflapmbnjaa", sum := "2a82b6f37e2706f16430afe2545c0012c0beaeffd13711da6e69b6d9d78dd78a", func := "riffle/rifflelaw06.MoldCopies", spec := "moldCopies", unfollowed := true, recurses := true, apart := false }
def MoldCopiesSaid : Prop := moldCopiesRow.holds Try.pinned (OpenSpec.ofChange moldCopiesSpec)

/-- ITS FALSE NEIGHBOUR: 'it returns false'. Refute it at one input. -/
def moldCopiesWrong : ChangeSpec := { name := "moldCopies", fn := fun _ => fun
  | [d1, d2, d3] => { results := [.lit (.bool false)], args := [d1, d2, d3] }
  | _ => none }
def MoldCopiesWrongFalsely : Prop := moldCopiesRow.holds Try.pinned (OpenSpec.ofChange moldCopiesWrong)

/-- 'rifflelaw06.MoldBack': WHATEVER THE INPUT: true; the input reads as it did. -/
def moldBackSpec : ChangeSpec := { name := "moldBack", fn := fun _ => fun
  | [d1, d2, d3] => { results := [.lit (.bool true)], args := [d1, d2, d3] }
  | _ => none }
def moldBackRow : OpenClaim := { program := "ytfnpdflapmbnjaa", sum := "2a82b6f37e2706f16430afe2545c0012c0beaeffd13711da6e69b6d9d78dd78a", func := "riffle/rifflelaw06.MoldBack", spec := "moldBack", unfollowed := true, recurses := true, apart := false }
def MoldBackSaid : Prop := moldBackRow.holds Try.pinned (OpenSpec.ofChange moldBackSpec)

/-- ITS FALSE NEIGHBOUR: 'it returns false'. Refute it at one input. -/
def moldBackWrong : ChangeSpec := { name := "moldBack", fn := fun _ => fun
  | [d1, d2, d3] => { results := [.lit (.bool false)], args := [d1, d2, d3] }
  | _ => none }
def MoldBackWrongFalsely : Prop := moldBackRow.holds Try.pinned (OpenSpec.ofChange moldBackWrong)

/-- 'rifflelaw07.CarveTurns': WHATEVER THE INPUT: true; the input reads as it did. -/
def carveTurnsSpec : ChangeSpec := { name := "carveTurns", fn := fun _ => fun
  | [d1, d2, d3] => { results := [.lit (.bool true)], args := [d1, d2, d3] }
  | _ => none }
def carveTurnsRow : OpenClaim := { program := "ytfnpdflapmbnjaa", sum := "2a82b6f37e2706f16430afe2545c0012c0beaeffd13711da6e69b6d9d78dd78a", func := "riffle/rifflelaw07.CarveTurns", spec := "carveTurns", unfollowed := true, recurses := true, apart := false }
def CarveTurnsSaid : Prop := carveTurnsRow.holds Try.pinned (OpenSpec.ofChange carveTurnsSpec)

/-- ITS FALSE NEIGHBOUR: 'it returns false'. Refute it at one input. -/
def carveTurnsWrong : ChangeSpec := { name := "carveTurns", fn := fun _ => fun
  | [d1, d2, d3] => { results := [.lit (.bool false)], args := [d1, d2, d3] }
  | _ => none }
def CarveTurnsWrongFalsely : Prop := carveTurnsRow.holds Try.pinned (OpenSpec.ofChange carveTurnsWrong)

/-- 'rifflelaw07.CarveTakes': WHATEVER THE INPUT: true; the input reads as it did. -/
def carveTakesSpec : ChangeSpec := { name := "carveTakes", fn := fun _ => fun
  | [d1, d2] => { results := [.lit (.bool true)], args := [d1, d2] }
  | _ => none }
def carveTakesRow : OpenClaim := { program := "ytfnpdflapmbnjaa", sum := "2a82b6f37e2706f16430afe2545c0012c0beaeffd13711da6e69b6d9d78dd78a", func := "riffle/rifflelaw07.CarveTakes", spec := "carveTakes", unfollowed := true, recurses := true, apart := false }
def CarveTakesSaid : Prop := carveTakesRow.holds Try.pinned (OpenSpec.ofChange carveTakesSpec)

/-- ITS FALSE NEIGHBOUR: 'it returns false'. Refute it at one input. -/
def carveTakesWrong : ChangeSpec := { name := "carveTakes", fn := fun _ => fun
  | [d1, d2] => { results := [.lit (.bool false)], args := [d1, d2] }
  | _ => none }
def CarveTakesWrongFalsely : Prop := carveTakesRow.holds Try.pinned (OpenSpec.ofChange carveTakesWrong)

/-- 'rifflelaw07.CarveDrops': WHATEVER THE INPUT: true; the input reads as it did. -/
def carveDropsSpec : ChangeSpec := { name := "carveDrops", fn := fun _ => fun
  | [d1, d2] => { results := [.lit (.bool true)], args := [d1, d2] }
  | _ => none }
def carveDropsRow : OpenClaim := { program := "ytfnpdflapmbnjaa", sum := "2a82b6f37e2706f16430afe2545c0012c0beaeffd13711da6e69b6d9d78dd78a", func := "riffle/rifflelaw07.CarveDrops", spec := "carveDrops", unfollowed := true, recurses := true, apart := false }
def CarveDropsSaid : Prop := carveDropsRow.holds Try.pinned (OpenSpec.ofChange carveDropsSpec)

/-- ITS FALSE NEIGHBOUR: 'it returns false'. Refute it at one input. -/
def carveDropsWrong : ChangeSpec := { name := "carveDrops", fn := fun _ => fun
  | [d1, d2] => { results := [.lit (.bool false)], args := [d1, d2] }
  | _ => none }
def CarveDropsWrongFalsely : Prop := carveDropsRow.holds Try.pinned (OpenSpec.ofChange carveDropsWrong)

/-- 'rifflelaw07.CarveBack': WHATEVER THE INPUT: true; the input reads as it did. -/
def carveBackSpec : ChangeSpec := { name := "carveBack", fn := fun _ => fun
  | [d1, d2, d3] => { results := [.lit (.bool true)], args := [d1, d2, d3] }
  | _ => none }
def carveBackRow : OpenClaim := { program := "ytfnpdflapmbnjaa", sum := "2a82b6f37e2706f16430afe2545c0012c0beaeffd13711da6e69b6d9d78dd78a", func := "riffle/rifflelaw07.CarveBack", spec := "carveBack", unfollowed := true, recurses := true, apart := false }
def CarveBackSaid : Prop := carveBackRow.holds Try.pinned (OpenSpec.ofChange carveBackSpec)

/-- ITS FALSE NEIGHBOUR: 'it returns false'. Refute it at one input. -/
def carveBackWrong : ChangeSpec := { name := "carveBack", fn := fun _ => fun
  | [d1, d2, d3] => { results := [.lit (.bool false)], args := [d1, d2, d3] }
  | _ => none }
def CarveBackWrongFalsely : Prop := carveBackRow.holds Try.pinned (OpenSpec.ofChange carveBackWrong)

/-- 'rifflelaw07.CarveParts': WHATEVER THE INPUT: true; the input reads as it did. -/
def carvePartsSpec : ChangeSpec := { name := "carveParts", fn := fun _ => fun
  | [d1, d2] => { results := [.lit (.bool true)], args := [d1, d2] }
  | _ => none }
def carvePartsRow : OpenClaim := { program := "ytfnpdflapmbnjaa", sum := "2a82b6f37e2706f16430afe2545c0012c0beaeffd13711da6e69b6d9d78dd78a", func := "riffle/rifflelaw07.CarveParts", spec := "carveParts", unfollowed := true, recurses := true, apart := false }
def CarvePartsSaid : Prop := carvePartsRow.holds Try.pinned (OpenSpec.ofChange carvePartsSpec)

/-- ITS FALSE NEIGHBOUR: 'it returns false'. Refute it at one input. -/
def carvePartsWrong : ChangeSpec := { name := "carveParts", fn := fun _ => fun
  | [d1, d2] => { results := [.lit (.bool false)], args := [d1, d2] }
  | _ => none }
def CarvePartsWrongFalsely : Prop := carvePartsRow.holds Try.pinned (OpenSpec.ofChange carvePartsWrong)

/- THE SECOND FORM. 'bulk': how many values and letters a reading holds, each counted each time it is reached (what is shared counts as often as it is met; a slice's spare places count too). A statement '..UptoSaid' is the law's where the arguments, and the package variables that the reading takes, are together of bulk at most 1048576: NARROWER than '..Said'. Prove '..Said' where nothing that the law and all that it calls make is longer than what came in: it says more and counts as full. Else prove '..UptoSaid'. A law counts once. -/
mutual
def uptoBulk {H : Type} : DataW H → Nat
  | .lit (.string bytes) => bytes.length + 1
  | .lit _ => 1
  | .nil => 1
  | .ptr d => uptoBulk d + 1
  | .slice elems spare => uptoBulkAll elems + uptoBulkAll spare + 1
  | .agg parts => uptoBulkAll parts + 1
  | .iface _ d => uptoBulk d + 1
  | .map entries => uptoBulkEntries entries + 1
  | .held _ => 1
def uptoBulkAll {H : Type} : List (DataW H) → Nat
  | [] => 0
  | d :: r => uptoBulk d + uptoBulkAll r
def uptoBulkEntries {H : Type} : List (Lit × DataW H) → Nat
  | [] => 0
  | x :: r => uptoBulkEntry x + uptoBulkEntries r
def uptoBulkEntry {H : Type} : Lit × DataW H → Nat
  | (.string bytes, d) => bytes.length + uptoBulk d + 1
  | (_, d) => uptoBulk d + 1
 end
def uptoSmall : (H : Type) → List (DataW H) → Bool := fun _ ds => decide (uptoBulkAll ds ≤ 1048576)
def OpenSpec.upto (s : _root_.Go.ChangeSpec) : _root_.Go.OpenSpec := { _root_.Go.OpenSpec.ofChange s with cond := some uptoSmall }

/-- 'rifflelaw06.MoldCopies', WHERE WHAT IT READS IS OF BULK AT MOST 1048576: true; the input reads as it did. -/
def moldCopiesUptoRow : OpenClaim := { program := "ytfnpdflapmbnjaa", sum := "2a82b6f37e2706f16430afe2545c0012c0beaeffd13711da6e69b6d9d78dd78a", func := "riffle/rifflelaw06.MoldCopies", spec := "moldCopies", unfollowed := true, recurses := true, apart := false, narrowed := true }
def MoldCopiesUptoSaid : Prop := moldCopiesUptoRow.holds Try.pinned (OpenSpec.upto moldCopiesSpec)

/-- 'rifflelaw06.MoldBack', WHERE WHAT IT READS IS OF BULK AT MOST 1048576: true; the input reads as it did. -/
def moldBackUptoRow : OpenClaim := { program := "ytfnpdflapmbnjaa", sum := "2a82b6f37e2706f16430afe2545c0012c0beaeffd13711da6e69b6d9d78dd78a", func := "riffle/rifflelaw06.MoldBack", spec := "moldBack", unfollowed := true, recurses := true, apart := false, narrowed := true }
def MoldBackUptoSaid : Prop := moldBackUptoRow.holds Try.pinned (OpenSpec.upto moldBackSpec)

/-- 'rifflelaw07.CarveTurns', WHERE WHAT IT READS IS OF BULK AT MOST 1048576: true; the input reads as it did. -/
def carveTurnsUptoRow : OpenClaim := { program := "ytfnpdflapmbnjaa", sum := "2a82b6f37e2706f16430afe2545c0012c0beaeffd13711da6e69b6d9d78dd78a", func := "riffle/rifflelaw07.CarveTurns", spec := "carveTurns", unfollowed := true, recurses := true, apart := false, narrowed := true }
def CarveTurnsUptoSaid : Prop := carveTurnsUptoRow.holds Try.pinned (OpenSpec.upto carveTurnsSpec)

/-- 'rifflelaw07.CarveTakes', WHERE WHAT IT READS IS OF BULK AT MOST 1048576: true; the input reads as it did. -/
def carveTakesUptoRow : OpenClaim := { program := "ytfnpdflapmbnjaa", sum := "2a82b6f37e2706f16430afe2545c0012c0beaeffd13711da6e69b6d9d78dd78a", func := "riffle/rifflelaw07.CarveTakes", spec := "carveTakes", unfollowed := true, recurses := true, apart := false, narrowed := true }
def CarveTakesUptoSaid : Prop := carveTakesUptoRow.holds Try.pinned (OpenSpec.upto carveTakesSpec)

/-- 'rifflelaw07.CarveDrops', WHERE WHAT IT READS IS OF BULK AT MOST 1048576: true; the input reads as it did. -/
def carveDropsUptoRow : OpenClaim := { program := "ytfnpdflapmbnjaa", sum := "2a82b6f37e2706f16430afe2545c0012c0beaeffd13711da6e69b6d9d78dd78a", func := "riffle/rifflelaw07.CarveDrops", spec := "carveDrops", unfollowed := true, recurses := true, apart := false, narrowed := true }
def CarveDropsUptoSaid : Prop := carveDropsUptoRow.holds Try.pinned (OpenSpec.upto carveDropsSpec)

/-- 'rifflelaw07.CarveBack', WHERE WHAT IT READS IS OF BULK AT MOST 1048576: true; the input reads as it did. -/
def carveBackUptoRow : OpenClaim := { program := "ytfnpdflapmbnjaa", sum := "2a82b6f37e2706f16430afe2545c0012c0beaeffd13711da6e69b6d9d78dd78a", func := "riffle/rifflelaw07.CarveBack", spec := "carveBack", unfollowed := true, recurses := true, apart := false, narrowed := true }
def CarveBackUptoSaid : Prop := carveBackUptoRow.holds Try.pinned (OpenSpec.upto carveBackSpec)

/-- 'rifflelaw07.CarveParts', WHERE WHAT IT READS IS OF BULK AT MOST 1048576: true; the input reads as it did. -/
def carvePartsUptoRow : OpenClaim := { program := "ytfnpdflapmbnjaa", sum := "2a82b6f37e2706f16430afe2545c0012c0beaeffd13711da6e69b6d9d78dd78a", func := "riffle/rifflelaw07.CarveParts", spec := "carveParts", unfollowed := true, recurses := true, apart := false, narrowed := true }
def CarvePartsUptoSaid : Prop := carvePartsUptoRow.holds Try.pinned (OpenSpec.upto carvePartsSpec)

end Rows
end Go.Proofs.Ytfnpdflapmbnjaa
