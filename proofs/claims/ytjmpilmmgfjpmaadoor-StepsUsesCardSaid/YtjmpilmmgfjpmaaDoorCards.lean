/-
  DERIVED. GIVEN WITH THE SEED: THE CARDS: each row of YtjmpilmmgfjpmaaDoorRows.lean that lists a variable, with what it lists TIED to the program's text (the seventh form; the later family's looks); each row that meets fmt, with fmt's text TOLD by the authors' own Lean function (tested against real Go, not proved from fmt's source: count such statements apart). THE CARD IS WHAT COUNTS. Prove the row's statement (the work); the ties are given (YtjmpilmmgfjpmaaDoorTie.lean); close each card by the builder's one call (the guide's Derived/Test/ToyasCard.lean, 'card_holds'). Laid BY PROGRAM, IN A SANDBOX (cutbox-door.mjs). By AI agents, Wed Nov 11 2026. No macro, syntax, notation, axiom, sorry.
-/
import Derived.Test.YtjmpilmmgfjpmaaDoorRows
import GoSem.ClaimSeven
namespace Go.Proofs.YtjmpilmmgfjpmaaDoor
namespace Rows

/-- THE TIED CARD OF 'rifflelaw22.StepsOf'. -/
def stepsOfCard : Claim7 := { stood := { row := stepsOfRow, standIns := [], harness := (true, "a1dee74542b114d7fcfa55d11d3feecb93d2a7e977ded5b91d02723da20d2594"), looks := false }, kinds := [], alts := [], laidByText := true, laidKinds := [.data], laidTests := true, laidLooks := .later }
def StepsOfCardSaid : Prop := Claim7.holds Tryd.pinned (.plain (OpenSpec.ofChange stepsOfSpec)) stepsOfCard

/-- THE TIED CARD OF 'rifflelaw22.StepsUses'. -/
def stepsUsesCard : Claim7 := { stood := { row := stepsUsesRow, standIns := [], harness := (true, "a1dee74542b114d7fcfa55d11d3feecb93d2a7e977ded5b91d02723da20d2594"), looks := false }, kinds := [], alts := [], laidByText := true, laidKinds := [.data], laidTests := true, laidLooks := .later }
def StepsUsesCardSaid : Prop := Claim7.holds Tryd.pinned (.plain (OpenSpec.ofChange stepsUsesSpec)) stepsUsesCard

/-- THE TIED CARD OF 'rifflelaw22.StepsRise'. -/
def stepsRiseCard : Claim7 := { stood := { row := stepsRiseRow, standIns := [], harness := (true, "a1dee74542b114d7fcfa55d11d3feecb93d2a7e977ded5b91d02723da20d2594"), looks := false }, kinds := [], alts := [], laidByText := true, laidKinds := [.data], laidTests := true, laidLooks := .later }
def StepsRiseCardSaid : Prop := Claim7.holds Tryd.pinned (.plain (OpenSpec.ofChange stepsRiseSpec)) stepsRiseCard

/-- THE TIED CARD OF 'rifflelaw22.StepsSwap'. -/
def stepsSwapCard : Claim7 := { stood := { row := stepsSwapRow, standIns := [], harness := (true, "a1dee74542b114d7fcfa55d11d3feecb93d2a7e977ded5b91d02723da20d2594"), looks := false }, kinds := [], alts := [], laidByText := true, laidKinds := [.data], laidTests := true, laidLooks := .later }
def StepsSwapCardSaid : Prop := Claim7.holds Tryd.pinned (.plain (OpenSpec.ofChange stepsSwapSpec)) stepsSwapCard

/-- THE SECOND FORM's CARD OF 'rifflelaw22.StepsOf'. -/
def stepsOfUptoCard : Claim7 := { stood := { row := stepsOfUptoRow, standIns := [], harness := (true, "a1dee74542b114d7fcfa55d11d3feecb93d2a7e977ded5b91d02723da20d2594"), looks := false }, kinds := [], alts := [], laidByText := true, laidKinds := [.data], laidTests := true, laidLooks := .later }
def StepsOfUptoCardSaid : Prop := Claim7.holds Tryd.pinned (.plain (OpenSpec.upto stepsOfSpec)) stepsOfUptoCard

/-- THE SECOND FORM's CARD OF 'rifflelaw22.StepsUses'. -/
def stepsUsesUptoCard : Claim7 := { stood := { row := stepsUsesUptoRow, standIns := [], harness := (true, "a1dee74542b114d7fcfa55d11d3feecb93d2a7e977ded5b91d02723da20d2594"), looks := false }, kinds := [], alts := [], laidByText := true, laidKinds := [.data], laidTests := true, laidLooks := .later }
def StepsUsesUptoCardSaid : Prop := Claim7.holds Tryd.pinned (.plain (OpenSpec.upto stepsUsesSpec)) stepsUsesUptoCard

/-- THE SECOND FORM's CARD OF 'rifflelaw22.StepsRise'. -/
def stepsRiseUptoCard : Claim7 := { stood := { row := stepsRiseUptoRow, standIns := [], harness := (true, "a1dee74542b114d7fcfa55d11d3feecb93d2a7e977ded5b91d02723da20d2594"), looks := false }, kinds := [], alts := [], laidByText := true, laidKinds := [.data], laidTests := true, laidLooks := .later }
def StepsRiseUptoCardSaid : Prop := Claim7.holds Tryd.pinned (.plain (OpenSpec.upto stepsRiseSpec)) stepsRiseUptoCard

/-- THE SECOND FORM's CARD OF 'rifflelaw22.StepsSwap'. -/
def stepsSwapUptoCard : Claim7 := { stood := { row := stepsSwapUptoRow, standIns := [], harness := (true, "a1dee74542b114d7fcfa55d11d3feecb93d2a7e977ded5b91d02723da20d2594"), looks := false }, kinds := [], alts := [], laidByText := true, laidKinds := [.data], laidTests := true, laidLooks := .later }
def StepsSwapUptoCardSaid : Prop := Claim7.holds Tryd.pinned (.plain (OpenSpec.upto stepsSwapSpec)) stepsSwapUptoCard
end Rows
end Go.Proofs.YtjmpilmmgfjpmaaDoor
