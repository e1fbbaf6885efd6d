/-
  No cell of these rows narrows 'for every input' (looked for: loops, veiled, ifaces, maps, wideKeys, modest, calm, conditions, laid).
  DERIVED. THE GIVEN ROWS OF THIS SEAT. 3 by the template 'for every input the law returns true; each argument reads behind the call as it read before'; 0 by the template 'total and deterministic' (their statements: YticicfbllhnpcaaTotals.lean).
  GIVEN WITH THE SEED: the statements are not yours to turn. If you find one false, say at which input.
  Laid BY PROGRAM, IN A SANDBOX (cutbox-rows.mjs): the forced cells as the released guide's own fill.sh prints them over the translation effc1ab6ee5b0767… (all of the seat's roots in one cut). By AI agents, Wed Nov 11 2026. No macro, syntax, notation, axiom, sorry.
-/
import Derived.Test.YticicfbllhnpcaaChecked
import GoSem.Claim
import GoSem.ClaimJoined
import GoSem.ClaimMapViews
import Derived.JoinedTies
import Derived.KernelRfl
namespace Go.Proofs.Yticicfbllhnpcaa
/- THE CELL 'sum', in the pinned program and in every row, IS THE sha256 OF THE DUMP (.gsa) THAT YticicfbllhnpcaaProg.lean LOADS. Nothing in Lean hashes anything: it is a label: what it is worth is what the hold of that sum in a sandbox is worth. -/
noncomputable def Try.pinned : Pinned := { name := "yticicfbllhnpcaa", sum := "effc1ab6ee5b076750b9e2270514da7b09ebe3e36263a79229f43cae722edaf3", checked := Try.checked }
namespace Rows
def none {H : Type} : Left H := { results := [], args := [] }

/-- 'rifflelaw07.CarveTurns': WHATEVER THE INPUT: true; the input reads as it did. -/
def carveTurnsSpec : ChangeSpec := { name := "carveTurns", fn := fun _ => fun
  | [d1, d2, d3] => { results := [.lit (.bool true)], args := [d1, d2, d3] }
  | _ => none }
def carveTurnsRow : OpenClaim := { program := "yticicfbllhnpcaa", sum := "effc1ab6ee5b076750b9e2270514da7b09ebe3e36263a79229f43cae722edaf3", func := "riffle/rifflelaw07.CarveTurns", spec := "carveTurns", unfollowed := true, recurses := true, apart := false }
def CarveTurnsSaid : Prop := carveTurnsRow.holds Try.pinned (OpenSpec.ofChange carveTurnsSpec)

/-- ITS FALSE NEIGHBOUR: 'it returns false'. Refute it at one input. -/
def carveTurnsWrong : ChangeSpec := { name := "carveTurns", fn := fun _ => fun
  | [d1, d2, d3] => { results := [.lit (.bool false)], args := [d1, d2, d3] }
  | _ => none }
def CarveTurnsWrongFalsely : Prop := carveTurnsRow.holds Try.pinned (OpenSpec.ofChange carveTurnsWrong)

/-- 'rifflelaw07.CarveTakes': WHATEVER THE INPUT: true; the input reads as it did. -/
def carveTakesSpec : ChangeSpec := { name := "carveTakes", fn := fun _ => fun
  | [d1, d2] => { results := [.lit (.bool true)], args := [d1, d2] }
  | _ => none }
def carveTakesRow : OpenClaim := { program := "yticicfbllhnpcaa", sum := "effc1ab6ee5b076750b9e2270514da7b09ebe3e36263a79229f43cae722edaf3", func := "riffle/rifflelaw07.CarveTakes", spec := "carveTakes", unfollowed := true, recurses := true, apart := false }
def CarveTakesSaid : Prop := carveTakesRow.holds Try.pinned (OpenSpec.ofChange carveTakesSpec)

/-- ITS FALSE NEIGHBOUR: 'it returns false'. Refute it at one input. -/
def carveTakesWrong : ChangeSpec := { name := "carveTakes", fn := fun _ => fun
  | [d1, d2] => { results := [.lit (.bool false)], args := [d1, d2] }
  | _ => none }
def CarveTakesWrongFalsely : Prop := carveTakesRow.holds Try.pinned (OpenSpec.ofChange carveTakesWrong)

/-- 'rifflelaw07.CarveDrops': WHATEVER THE INPUT: true; the input reads as it did. -/
def carveDropsSpec : ChangeSpec := { name := "carveDrops", fn := fun _ => fun
  | [d1, d2] => { results := [.lit (.bool true)], args := [d1, d2] }
  | _ => none }
def carveDropsRow : OpenClaim := { program := "yticicfbllhnpcaa", sum := "effc1ab6ee5b076750b9e2270514da7b09ebe3e36263a79229f43cae722edaf3", func := "riffle/rifflelaw07.CarveDrops", spec := "carveDrops", unfollowed := true, recurses := true, apart := false }
def CarveDropsSaid : Prop := carveDropsRow.holds Try.pinned (OpenSpec.ofChange carveDropsSpec)

/-- ITS FALSE NEIGHBOUR: 'it returns false'. Refute it at one input. -/
def carveDropsWrong : ChangeSpec := { name := "carveDrops", fn := fun _ => fun
  | [d1, d2] => { results := [.lit (.bool false)], args := [d1, d2] }
  | _ => none }
def CarveDropsWrongFalsely : Prop := carveDropsRow.holds Try.pinned (OpenSpec.ofChange carveDropsWrong)

/- THE SECOND FORM. 'bulk': how many values and letters a reading holds, each counted each time it is reached (what is shared counts as often as it is met; a slice's spare places count too). A statement '..UptoSaid' is the law's where the arguments, and the package variables that the reading takes, are together of bulk at most 1048576: NARROWER than '..Said'. Prove '..Said' where nothing that the law and all that it calls make is longer than what came in: it says more and counts as full. Else prove '..UptoSaid'. A law counts once. -/
mutual
def uptoBulk {H : Type} : DataW H → Nat
  | .lit (.string bytes) => bytes.length + 1
  | .lit _ => 1
  | .nil => 1
  | .ptr d => uptoBulk d + 1
  | .slice elems spare => uptoBulkAll elems + uptoBulkAll spare + 1
  | .agg parts => uptoBulkAll parts + 1
  | .iface _ d => uptoBulk d + 1
  | .map entries => uptoBulkEntries entries + 1
  | .held _ => 1
def uptoBulkAll {H : Type} : List (DataW H) → Nat
  | [] => 0
  | d :: r => uptoBulk d + uptoBulkAll r
def uptoBulkEntries {H : Type} : List (Lit × DataW H) → Nat
  | [] => 0
  | x :: r => uptoBulkEntry x + uptoBulkEntries r
def uptoBulkEntry {H : Type} : Lit × DataW H → Nat
  | (.string bytes, d) => bytes.length + uptoBulk d + 1
  | (_, d) => uptoBulk d + 1
 end
def uptoSmall : (H : Type) → List (DataW H) → Bool := fun _ ds => decide (uptoBulkAll ds ≤ 1048576)
def OpenSpec.upto (s : _root_.Go.ChangeSpec) : _root_.Go.OpenSpec := { _root_.Go.OpenSpec.ofChange s with cond := some uptoSmall }

/-- 'rifflelaw07.CarveTurns', WHERE WHAT IT READS IS OF BULK AT MOST 1048576: true; the input reads as it did. -/
def carveTurnsUptoRow : OpenClaim := { program := "yticicfbllhnpcaa", sum := "effc1ab6ee5b076750b9e2270514da7b09ebe3e36263a79229f43cae722edaf3", func := "riffle/rifflelaw07.CarveTurns", spec := "carveTurns", unfollowed := true, recurses := true, apart := false, narrowed := true }
def CarveTurnsUptoSaid : Prop := carveTurnsUptoRow.holds Try.pinned (OpenSpec.upto carveTurnsSpec)

/-- 'rifflelaw07.CarveTakes', WHERE WHAT IT READS IS OF BULK AT MOST 1048576: true; the input reads as it did. -/
def carveTakesUptoRow : OpenClaim := { program := "yticicfbllhnpcaa", sum := "effc1ab6ee5b076750b9e2270514da7b09ebe3e36263a79229f43cae722edaf3", func := "riffle/rifflelaw07.CarveTakes", spec := "carveTakes", unfollowed := true, recurses := true, apart := false, narrowed := true }
def CarveTakesUptoSaid : Prop := carveTakesUptoRow.holds Try.pinned (OpenSpec.upto carveTakesSpec)

/-- 'rifflelaw07.CarveDrops', WHERE WHAT IT READS IS OF BULK AT MOST 1048576: true; the input reads as it did. -/
def carveDropsUptoRow : OpenClaim := { program := "yticicfbllhnpcaa", sum := "effc1ab6ee5b076750b9e2270514da7b09ebe3e36263a79229f43cae722edaf3", func := "riffle/rifflelaw07.CarveDrops", spec := "carveDrops", unfollowed := true, recurses := true, apart := false, narrowed := true }
def CarveDropsUptoSaid : Prop := carveDropsUptoRow.holds Try.pinned (OpenSpec.upto carveDropsSpec)

end Rows
end Go.Proofs.Yticicfbllhnpcaa
