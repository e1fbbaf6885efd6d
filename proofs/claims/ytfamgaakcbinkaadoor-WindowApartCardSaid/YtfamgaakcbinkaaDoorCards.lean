/-
  DERIVED. GIVEN WITH THE SEED: THE CARDS: each row of YtfamgaakcbinkaaDoorRows.lean that lists a variable, with what it lists TIED to the program's text (the seventh form; the later family's looks); each row that meets fmt, with fmt's text TOLD by the authors' own Lean function (tested against real Go, not proved from fmt's source: count such statements apart). THE CARD IS WHAT COUNTS. Prove the row's statement (the work); the ties are given (YtfamgaakcbinkaaDoorTie.lean); close each card by the builder's one call (the guide's Derived/Test/ToyasCard.lean, 'card_holds'). Laid BY PROGRAM, IN A SANDBOX (cutbox-door.mjs). By AI agents, Wed Nov 11 2026. No macro, syntax, notation, axiom, sorry.
-/
import Derived.Test.YtfamgaakcbinkaaDoorRows
import GoSem.ClaimSeven
namespace Go.Proofs.YtfamgaakcbinkaaDoor
namespace Rows

/-- THE TIED CARD OF 'rifflelaw09.ProductInners'. -/
def productInnersCard : Claim7 := { stood := { row := productInnersRow, standIns := [], harness := (true, "ccc2d6862cc47b3d4ab1073f3b1100b9317f1b74d7599ac495d3d93099f5b515"), looks := false }, kinds := [], alts := [], laidByText := true, laidKinds := [.data], laidTests := true, laidLooks := .later }
def ProductInnersCardSaid : Prop := Claim7.holds Tryd.pinned (.plain (OpenSpec.ofChange productInnersSpec)) productInnersCard

/-- THE TIED CARD OF 'rifflelaw09.ProductOuters'. -/
def productOutersCard : Claim7 := { stood := { row := productOutersRow, standIns := [], harness := (true, "ccc2d6862cc47b3d4ab1073f3b1100b9317f1b74d7599ac495d3d93099f5b515"), looks := false }, kinds := [], alts := [], laidByText := true, laidKinds := [.data], laidTests := true, laidLooks := .later }
def ProductOutersCardSaid : Prop := Claim7.holds Tryd.pinned (.plain (OpenSpec.ofChange productOutersSpec)) productOutersCard

/-- THE TIED CARD OF 'rifflelaw09.ProductItems'. -/
def productItemsCard : Claim7 := { stood := { row := productItemsRow, standIns := [], harness := (true, "ccc2d6862cc47b3d4ab1073f3b1100b9317f1b74d7599ac495d3d93099f5b515"), looks := false }, kinds := [], alts := [], laidByText := true, laidKinds := [.data], laidTests := true, laidLooks := .later }
def ProductItemsCardSaid : Prop := Claim7.holds Tryd.pinned (.plain (OpenSpec.ofChange productItemsSpec)) productItemsCard

/-- THE TIED CARD OF 'rifflelaw09.ProductTurns'. -/
def productTurnsCard : Claim7 := { stood := { row := productTurnsRow, standIns := [], harness := (true, "ccc2d6862cc47b3d4ab1073f3b1100b9317f1b74d7599ac495d3d93099f5b515"), looks := false }, kinds := [], alts := [], laidByText := true, laidKinds := [.data], laidTests := true, laidLooks := .later }
def ProductTurnsCardSaid : Prop := Claim7.holds Tryd.pinned (.plain (OpenSpec.ofChange productTurnsSpec)) productTurnsCard

/-- THE TIED CARD OF 'rifflelaw15.WindowPlays'. -/
def windowPlaysCard : Claim7 := { stood := { row := windowPlaysRow, standIns := [], harness := (true, "ccc2d6862cc47b3d4ab1073f3b1100b9317f1b74d7599ac495d3d93099f5b515"), looks := false }, kinds := [], alts := [], laidByText := true, laidKinds := [.data], laidTests := true, laidLooks := .later }
def WindowPlaysCardSaid : Prop := Claim7.holds Tryd.pinned (.plain (OpenSpec.ofChange windowPlaysSpec)) windowPlaysCard

/-- THE TIED CARD OF 'rifflelaw15.WindowApart'. -/
def windowApartCard : Claim7 := { stood := { row := windowApartRow, standIns := [], harness := (true, "ccc2d6862cc47b3d4ab1073f3b1100b9317f1b74d7599ac495d3d93099f5b515"), looks := false }, kinds := [], alts := [], laidByText := true, laidKinds := [.data], laidTests := true, laidLooks := .later }
def WindowApartCardSaid : Prop := Claim7.holds Tryd.pinned (.plain (OpenSpec.ofChange windowApartSpec)) windowApartCard

/-- THE TIED CARD OF 'rifflelaw15.WindowHangs'. -/
def windowHangsCard : Claim7 := { stood := { row := windowHangsRow, standIns := [], harness := (true, "ccc2d6862cc47b3d4ab1073f3b1100b9317f1b74d7599ac495d3d93099f5b515"), looks := false }, kinds := [], alts := [], laidByText := true, laidKinds := [.data], laidTests := true, laidLooks := .later }
def WindowHangsCardSaid : Prop := Claim7.holds Tryd.pinned (.plain (OpenSpec.ofChange windowHangsSpec)) windowHangsCard

/-- THE TIED CARD OF 'rifflelaw15.WindowAlike'. -/
def windowAlikeCard : Claim7 := { stood := { row := windowAlikeRow, standIns := [], harness := (true, "ccc2d6862cc47b3d4ab1073f3b1100b9317f1b74d7599ac495d3d93099f5b515"), looks := false }, kinds := [], alts := [], laidByText := true, laidKinds := [.data], laidTests := true, laidLooks := .later }
def WindowAlikeCardSaid : Prop := Claim7.holds Tryd.pinned (.plain (OpenSpec.ofChange windowAlikeSpec)) windowAlikeCard

/-- THE SECOND FORM's CARD OF 'rifflelaw09.ProductInners'. -/
def productInnersUptoCard : Claim7 := { stood := { row := productInnersUptoRow, standIns := [], harness := (true, "ccc2d6862cc47b3d4ab1073f3b1100b9317f1b74d7599ac495d3d93099f5b515"), looks := false }, kinds := [], alts := [], laidByText := true, laidKinds := [.data], laidTests := true, laidLooks := .later }
def ProductInnersUptoCardSaid : Prop := Claim7.holds Tryd.pinned (.plain (OpenSpec.upto productInnersSpec)) productInnersUptoCard

/-- THE SECOND FORM's CARD OF 'rifflelaw09.ProductOuters'. -/
def productOutersUptoCard : Claim7 := { stood := { row := productOutersUptoRow, standIns := [], harness := (true, "ccc2d6862cc47b3d4ab1073f3b1100b9317f1b74d7599ac495d3d93099f5b515"), looks := false }, kinds := [], alts := [], laidByText := true, laidKinds := [.data], laidTests := true, laidLooks := .later }
def ProductOutersUptoCardSaid : Prop := Claim7.holds Tryd.pinned (.plain (OpenSpec.upto productOutersSpec)) productOutersUptoCard

/-- THE SECOND FORM's CARD OF 'rifflelaw09.ProductItems'. -/
def productItemsUptoCard : Claim7 := { stood := { row := productItemsUptoRow, standIns := [], harness := (true, "ccc2d6862cc47b3d4ab1073f3b1100b9317f1b74d7599ac495d3d93099f5b515"), looks := false }, kinds := [], alts := [], laidByText := true, laidKinds := [.data], laidTests := true, laidLooks := .later }
def ProductItemsUptoCardSaid : Prop := Claim7.holds Tryd.pinned (.plain (OpenSpec.upto productItemsSpec)) productItemsUptoCard

/-- THE SECOND FORM's CARD OF 'rifflelaw09.ProductTurns'. -/
def productTurnsUptoCard : Claim7 := { stood := { row := productTurnsUptoRow, standIns := [], harness := (true, "ccc2d6862cc47b3d4ab1073f3b1100b9317f1b74d7599ac495d3d93099f5b515"), looks := false }, kinds := [], alts := [], laidByText := true, laidKinds := [.data], laidTests := true, laidLooks := .later }
def ProductTurnsUptoCardSaid : Prop := Claim7.holds Tryd.pinned (.plain (OpenSpec.upto productTurnsSpec)) productTurnsUptoCard

/-- THE SECOND FORM's CARD OF 'rifflelaw15.WindowPlays'. -/
def windowPlaysUptoCard : Claim7 := { stood := { row := windowPlaysUptoRow, standIns := [], harness := (true, "ccc2d6862cc47b3d4ab1073f3b1100b9317f1b74d7599ac495d3d93099f5b515"), looks := false }, kinds := [], alts := [], laidByText := true, laidKinds := [.data], laidTests := true, laidLooks := .later }
def WindowPlaysUptoCardSaid : Prop := Claim7.holds Tryd.pinned (.plain (OpenSpec.upto windowPlaysSpec)) windowPlaysUptoCard

/-- THE SECOND FORM's CARD OF 'rifflelaw15.WindowApart'. -/
def windowApartUptoCard : Claim7 := { stood := { row := windowApartUptoRow, standIns := [], harness := (true, "ccc2d6862cc47b3d4ab1073f3b1100b9317f1b74d7599ac495d3d93099f5b515"), looks := false }, kinds := [], alts := [], laidByText := true, laidKinds := [.data], laidTests := true, laidLooks := .later }
def WindowApartUptoCardSaid : Prop := Claim7.holds Tryd.pinned (.plain (OpenSpec.upto windowApartSpec)) windowApartUptoCard

/-- THE SECOND FORM's CARD OF 'rifflelaw15.WindowHangs'. -/
def windowHangsUptoCard : Claim7 := { stood := { row := windowHangsUptoRow, standIns := [], harness := (true, "ccc2d6862cc47b3d4ab1073f3b1100b9317f1b74d7599ac495d3d93099f5b515"), looks := false }, kinds := [], alts := [], laidByText := true, laidKinds := [.data], laidTests := true, laidLooks := .later }
def WindowHangsUptoCardSaid : Prop := Claim7.holds Tryd.pinned (.plain (OpenSpec.upto windowHangsSpec)) windowHangsUptoCard

/-- THE SECOND FORM's CARD OF 'rifflelaw15.WindowAlike'. -/
def windowAlikeUptoCard : Claim7 := { stood := { row := windowAlikeUptoRow, standIns := [], harness := (true, "ccc2d6862cc47b3d4ab1073f3b1100b9317f1b74d7599ac495d3d93099f5b515"), looks := false }, kinds := [], alts := [], laidByText := true, laidKinds := [.data], laidTests := true, laidLooks := .later }
def WindowAlikeUptoCardSaid : Prop := Claim7.holds Tryd.pinned (.plain (OpenSpec.upto windowAlikeSpec)) windowAlikeUptoCard
end Rows
end Go.Proofs.YtfamgaakcbinkaaDoor
