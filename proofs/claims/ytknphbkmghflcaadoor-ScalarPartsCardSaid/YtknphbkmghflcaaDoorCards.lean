/-
  DERIVED. GIVEN WITH THE SEED: THE CARDS: each row of YtknphbkmghflcaaDoorRows.lean that lists a variable, with what it lists TIED to the program's text (the seventh form; the later family's looks); each row that meets fmt, with fmt's text TOLD by the authors' own Lean function (tested against real Go, not proved from fmt's source: count such statements apart). THE CARD IS WHAT COUNTS. Prove the row's statement (the work); the ties are given (YtknphbkmghflcaaDoorTie.lean); close each card by the builder's one call (the guide's Derived/Test/ToyasCard.lean, 'card_holds'). Laid BY PROGRAM, IN A SANDBOX (cutbox-door.mjs). By AI agents, Wed Nov 11 2026. No macro, syntax, notation, axiom, sorry.
-/
import Derived.Test.YtknphbkmghflcaaDoorRows
import GoSem.ClaimSeven
namespace Go.Proofs.YtknphbkmghflcaaDoor
namespace Rows

/-- THE TIED CARD OF 'rifflelaw04.ScalarTwos'. -/
def scalarTwosCard : Claim7 := { stood := { row := scalarTwosRow, standIns := [], harness := (true, "091d8bfc1f45bab1d4dbf6f5a9891ff9561fdaa9ad99958961b007c6c1fe5b67"), looks := false }, kinds := [], alts := [], laidByText := true, laidKinds := [.data], laidTests := true, laidLooks := .later }
def ScalarTwosCardSaid : Prop := Claim7.holds Tryd.pinned (.plain (OpenSpec.ofChange scalarTwosSpec)) scalarTwosCard

/-- THE TIED CARD OF 'rifflelaw04.ScalarOnes'. -/
def scalarOnesCard : Claim7 := { stood := { row := scalarOnesRow, standIns := [], harness := (true, "091d8bfc1f45bab1d4dbf6f5a9891ff9561fdaa9ad99958961b007c6c1fe5b67"), looks := false }, kinds := [], alts := [], laidByText := true, laidKinds := [.data], laidTests := true, laidLooks := .later }
def ScalarOnesCardSaid : Prop := Claim7.holds Tryd.pinned (.plain (OpenSpec.ofChange scalarOnesSpec)) scalarOnesCard

/-- THE TIED CARD OF 'rifflelaw04.ScalarKinds'. -/
def scalarKindsCard : Claim7 := { stood := { row := scalarKindsRow, standIns := [], harness := (true, "091d8bfc1f45bab1d4dbf6f5a9891ff9561fdaa9ad99958961b007c6c1fe5b67"), looks := false }, kinds := [], alts := [], laidByText := true, laidKinds := [.data], laidTests := true, laidLooks := .later }
def ScalarKindsCardSaid : Prop := Claim7.holds Tryd.pinned (.plain (OpenSpec.ofChange scalarKindsSpec)) scalarKindsCard

/-- THE TIED CARD OF 'rifflelaw04.ScalarJoins'. -/
def scalarJoinsCard : Claim7 := { stood := { row := scalarJoinsRow, standIns := [], harness := (true, "091d8bfc1f45bab1d4dbf6f5a9891ff9561fdaa9ad99958961b007c6c1fe5b67"), looks := false }, kinds := [], alts := [], laidByText := true, laidKinds := [.data], laidTests := true, laidLooks := .later }
def ScalarJoinsCardSaid : Prop := Claim7.holds Tryd.pinned (.plain (OpenSpec.ofChange scalarJoinsSpec)) scalarJoinsCard

/-- THE TIED CARD OF 'rifflelaw04.ScalarParts'. -/
def scalarPartsCard : Claim7 := { stood := { row := scalarPartsRow, standIns := [], harness := (true, "091d8bfc1f45bab1d4dbf6f5a9891ff9561fdaa9ad99958961b007c6c1fe5b67"), looks := false }, kinds := [], alts := [], laidByText := true, laidKinds := [.data], laidTests := true, laidLooks := .later }
def ScalarPartsCardSaid : Prop := Claim7.holds Tryd.pinned (.plain (OpenSpec.ofChange scalarPartsSpec)) scalarPartsCard

/-- THE SECOND FORM's CARD OF 'rifflelaw04.ScalarTwos'. -/
def scalarTwosUptoCard : Claim7 := { stood := { row := scalarTwosUptoRow, standIns := [], harness := (true, "091d8bfc1f45bab1d4dbf6f5a9891ff9561fdaa9ad99958961b007c6c1fe5b67"), looks := false }, kinds := [], alts := [], laidByText := true, laidKinds := [.data], laidTests := true, laidLooks := .later }
def ScalarTwosUptoCardSaid : Prop := Claim7.holds Tryd.pinned (.plain (OpenSpec.upto scalarTwosSpec)) scalarTwosUptoCard

/-- THE SECOND FORM's CARD OF 'rifflelaw04.ScalarOnes'. -/
def scalarOnesUptoCard : Claim7 := { stood := { row := scalarOnesUptoRow, standIns := [], harness := (true, "091d8bfc1f45bab1d4dbf6f5a9891ff9561fdaa9ad99958961b007c6c1fe5b67"), looks := false }, kinds := [], alts := [], laidByText := true, laidKinds := [.data], laidTests := true, laidLooks := .later }
def ScalarOnesUptoCardSaid : Prop := Claim7.holds Tryd.pinned (.plain (OpenSpec.upto scalarOnesSpec)) scalarOnesUptoCard

/-- THE SECOND FORM's CARD OF 'rifflelaw04.ScalarKinds'. -/
def scalarKindsUptoCard : Claim7 := { stood := { row := scalarKindsUptoRow, standIns := [], harness := (true, "091d8bfc1f45bab1d4dbf6f5a9891ff9561fdaa9ad99958961b007c6c1fe5b67"), looks := false }, kinds := [], alts := [], laidByText := true, laidKinds := [.data], laidTests := true, laidLooks := .later }
def ScalarKindsUptoCardSaid : Prop := Claim7.holds Tryd.pinned (.plain (OpenSpec.upto scalarKindsSpec)) scalarKindsUptoCard

/-- THE SECOND FORM's CARD OF 'rifflelaw04.ScalarJoins'. -/
def scalarJoinsUptoCard : Claim7 := { stood := { row := scalarJoinsUptoRow, standIns := [], harness := (true, "091d8bfc1f45bab1d4dbf6f5a9891ff9561fdaa9ad99958961b007c6c1fe5b67"), looks := false }, kinds := [], alts := [], laidByText := true, laidKinds := [.data], laidTests := true, laidLooks := .later }
def ScalarJoinsUptoCardSaid : Prop := Claim7.holds Tryd.pinned (.plain (OpenSpec.upto scalarJoinsSpec)) scalarJoinsUptoCard

/-- THE SECOND FORM's CARD OF 'rifflelaw04.ScalarParts'. -/
def scalarPartsUptoCard : Claim7 := { stood := { row := scalarPartsUptoRow, standIns := [], harness := (true, "091d8bfc1f45bab1d4dbf6f5a9891ff9561fdaa9ad99958961b007c6c1fe5b67"), looks := false }, kinds := [], alts := [], laidByText := true, laidKinds := [.data], laidTests := true, laidLooks := .later }
def ScalarPartsUptoCardSaid : Prop := Claim7.holds Tryd.pinned (.plain (OpenSpec.upto scalarPartsSpec)) scalarPartsUptoCard
end Rows
end Go.Proofs.YtknphbkmghflcaaDoor
