/-
  DERIVED. GIVEN WITH THE SEED: THE CARDS: each row of YtfnpdflapmbnjaaDoorRows.lean that lists a variable, with what it lists TIED to the program's text (the seventh form; the later family's looks); each row that meets fmt, with fmt's text TOLD by the authors' own Lean function (tested against real Go, not proved from fmt's source: count such statements apart). THE CARD IS WHAT COUNTS. Prove the row's statement (the work); the ties are given (YtfnpdflapmbnjaaDoorTie.lean); close each card by the builder's one call (the guide's Derived/Test/ToyasCard.lean, 'card_holds'). Laid BY PROGRAM, IN A SANDBOX (cutbox-door.mjs). By AI agents, Wed Nov 11 2026. No macro, syntax, notation, axiom, sorry.
-/
import Derived.Test.YtfnpdflapmbnjaaDoorRows
import GoSem.ClaimSeven
namespace Go.Proofs.YtfnpdflapmbnjaaDoor
namespace Rows

/-- THE TIED CARD OF 'rifflelaw08.FoldRows'. -/
def foldRowsCard : Claim7 := { stood := { row := foldRowsRow, standIns := [], harness := (true, "b285987c43c791acf63840397bc50c96ecbcd6ff9d18c142db917699330a4626"), looks := false }, kinds := [], alts := [], laidByText := true, laidKinds := [.data], laidTests := true, laidLooks := .later }
def FoldRowsCardSaid : Prop := Claim7.holds Tryd.pinned (.plain (OpenSpec.ofChange foldRowsSpec)) foldRowsCard

/-- THE TIED CARD OF 'rifflelaw08.FoldReduces'. -/
def foldReducesCard : Claim7 := { stood := { row := foldReducesRow, standIns := [], harness := (true, "b285987c43c791acf63840397bc50c96ecbcd6ff9d18c142db917699330a4626"), looks := false }, kinds := [], alts := [], laidByText := true, laidKinds := [.data], laidTests := true, laidLooks := .later }
def FoldReducesCardSaid : Prop := Claim7.holds Tryd.pinned (.plain (OpenSpec.ofChange foldReducesSpec)) foldReducesCard

/-- THE TIED CARD OF 'rifflelaw08.FoldScans'. -/
def foldScansCard : Claim7 := { stood := { row := foldScansRow, standIns := [], harness := (true, "b285987c43c791acf63840397bc50c96ecbcd6ff9d18c142db917699330a4626"), looks := false }, kinds := [], alts := [], laidByText := true, laidKinds := [.data], laidTests := true, laidLooks := .later }
def FoldScansCardSaid : Prop := Claim7.holds Tryd.pinned (.plain (OpenSpec.ofChange foldScansSpec)) foldScansCard

/-- THE TIED CARD OF 'rifflelaw08.FoldLast'. -/
def foldLastCard : Claim7 := { stood := { row := foldLastRow, standIns := [], harness := (true, "b285987c43c791acf63840397bc50c96ecbcd6ff9d18c142db917699330a4626"), looks := false }, kinds := [], alts := [], laidByText := true, laidKinds := [.data], laidTests := true, laidLooks := .later }
def FoldLastCardSaid : Prop := Claim7.holds Tryd.pinned (.plain (OpenSpec.ofChange foldLastSpec)) foldLastCard

/-- THE SECOND FORM's CARD OF 'rifflelaw08.FoldRows'. -/
def foldRowsUptoCard : Claim7 := { stood := { row := foldRowsUptoRow, standIns := [], harness := (true, "b285987c43c791acf63840397bc50c96ecbcd6ff9d18c142db917699330a4626"), looks := false }, kinds := [], alts := [], laidByText := true, laidKinds := [.data], laidTests := true, laidLooks := .later }
def FoldRowsUptoCardSaid : Prop := Claim7.holds Tryd.pinned (.plain (OpenSpec.upto foldRowsSpec)) foldRowsUptoCard

/-- THE SECOND FORM's CARD OF 'rifflelaw08.FoldReduces'. -/
def foldReducesUptoCard : Claim7 := { stood := { row := foldReducesUptoRow, standIns := [], harness := (true, "b285987c43c791acf63840397bc50c96ecbcd6ff9d18c142db917699330a4626"), looks := false }, kinds := [], alts := [], laidByText := true, laidKinds := [.data], laidTests := true, laidLooks := .later }
def FoldReducesUptoCardSaid : Prop := Claim7.holds Tryd.pinned (.plain (OpenSpec.upto foldReducesSpec)) foldReducesUptoCard

/-- THE SECOND FORM's CARD OF 'rifflelaw08.FoldScans'. -/
def foldScansUptoCard : Claim7 := { stood := { row := foldScansUptoRow, standIns := [], harness := (true, "b285987c43c791acf63840397bc50c96ecbcd6ff9d18c142db917699330a4626"), looks := false }, kinds := [], alts := [], laidByText := true, laidKinds := [.data], laidTests := true, laidLooks := .later }
def FoldScansUptoCardSaid : Prop := Claim7.holds Tryd.pinned (.plain (OpenSpec.upto foldScansSpec)) foldScansUptoCard

/-- THE SECOND FORM's CARD OF 'rifflelaw08.FoldLast'. -/
def foldLastUptoCard : Claim7 := { stood := { row := foldLastUptoRow, standIns := [], harness := (true, "b285987c43c791acf63840397bc50c96ecbcd6ff9d18c142db917699330a4626"), looks := false }, kinds := [], alts := [], laidByText := true, laidKinds := [.data], laidTests := true, laidLooks := .later }
def FoldLastUptoCardSaid : Prop := Claim7.holds Tryd.pinned (.plain (OpenSpec.upto foldLastSpec)) foldLastUptoCard
end Rows
end Go.Proofs.YtfnpdflapmbnjaaDoor
