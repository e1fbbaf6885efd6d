/-
  DERIVED. GIVEN WITH THE SEED: THE CARDS: each row of YtocdejjkmfnnnaaDoorRows.lean that lists a variable, with what it lists TIED to the program's text (the seventh form; the later family's looks); each row that meets fmt, with fmt's text TOLD by the authors' own Lean function (tested against real Go, not proved from fmt's source: count such statements apart). THE CARD IS WHAT COUNTS. Prove the row's statement (the work); the ties are given (YtocdejjkmfnnnaaDoorTie.lean); close each card by the builder's one call (the guide's Derived/Test/ToyasCard.lean, 'card_holds'). Laid BY PROGRAM, IN A SANDBOX (cutbox-door.mjs). By AI agents, Wed Nov 11 2026. No macro, syntax, notation, axiom, sorry.
-/
import Derived.Test.YtocdejjkmfnnnaaDoorRows
import GoSem.ClaimSeven
namespace Go.Proofs.YtocdejjkmfnnnaaDoor
namespace Rows

/-- THE TIED CARD OF 'rifflelaw09.ProductInners'. -/
def productInnersCard : Claim7 := { stood := { row := productInnersRow, standIns := [], harness := (true, "ed935ed055b093863e15003ef3e6e9a9e1058493ab5605a15dee301033e28700"), looks := false }, kinds := [], alts := [], laidByText := true, laidKinds := [.data], laidTests := true, laidLooks := .later }
def ProductInnersCardSaid : Prop := Claim7.holds Tryd.pinned (.plain (OpenSpec.ofChange productInnersSpec)) productInnersCard

/-- THE TIED CARD OF 'rifflelaw09.ProductOuters'. -/
def productOutersCard : Claim7 := { stood := { row := productOutersRow, standIns := [], harness := (true, "ed935ed055b093863e15003ef3e6e9a9e1058493ab5605a15dee301033e28700"), looks := false }, kinds := [], alts := [], laidByText := true, laidKinds := [.data], laidTests := true, laidLooks := .later }
def ProductOutersCardSaid : Prop := Claim7.holds Tryd.pinned (.plain (OpenSpec.ofChange productOutersSpec)) productOutersCard

/-- THE TIED CARD OF 'rifflelaw09.ProductItems'. -/
def productItemsCard : Claim7 := { stood := { row := productItemsRow, standIns := [], harness := (true, "ed935ed055b093863e15003ef3e6e9a9e1058493ab5605a15dee301033e28700"), looks := false }, kinds := [], alts := [], laidByText := true, laidKinds := [.data], laidTests := true, laidLooks := .later }
def ProductItemsCardSaid : Prop := Claim7.holds Tryd.pinned (.plain (OpenSpec.ofChange productItemsSpec)) productItemsCard

/-- THE TIED CARD OF 'rifflelaw09.ProductTurns'. -/
def productTurnsCard : Claim7 := { stood := { row := productTurnsRow, standIns := [], harness := (true, "ed935ed055b093863e15003ef3e6e9a9e1058493ab5605a15dee301033e28700"), looks := false }, kinds := [], alts := [], laidByText := true, laidKinds := [.data], laidTests := true, laidLooks := .later }
def ProductTurnsCardSaid : Prop := Claim7.holds Tryd.pinned (.plain (OpenSpec.ofChange productTurnsSpec)) productTurnsCard

/-- THE TIED CARD OF 'rifflelaw10.DigitsTells'. -/
def digitsTellsCard : Claim7 := { stood := { row := digitsTellsRow, standIns := [], harness := (true, "ed935ed055b093863e15003ef3e6e9a9e1058493ab5605a15dee301033e28700"), looks := false }, kinds := [], alts := [], laidByText := true, laidKinds := [.data, .data, .data], laidTests := true, laidLooks := .later }
def DigitsTellsCardSaid : Prop := Claim7.holds Tryd.pinned (.plain (OpenSpec.ofChange digitsTellsSpec)) digitsTellsCard

/-- THE TIED CARD OF 'rifflelaw10.DigitsWords'. -/
def digitsWordsCard : Claim7 := { stood := { row := digitsWordsRow, standIns := [], harness := (true, "ed935ed055b093863e15003ef3e6e9a9e1058493ab5605a15dee301033e28700"), looks := false }, kinds := [], alts := [], laidByText := true, laidKinds := [.data, .data, .data], laidTests := true, laidLooks := .later }
def DigitsWordsCardSaid : Prop := Claim7.holds Tryd.pinned (.plain (OpenSpec.ofChange digitsWordsSpec)) digitsWordsCard

/-- THE TIED CARD OF 'rifflelaw10.DigitsBack'. -/
def digitsBackCard : Claim7 := { stood := { row := digitsBackRow, standIns := [], harness := (true, "ed935ed055b093863e15003ef3e6e9a9e1058493ab5605a15dee301033e28700"), looks := false }, kinds := [], alts := [], laidByText := true, laidKinds := [.data, .data, .data], laidTests := true, laidLooks := .later }
def DigitsBackCardSaid : Prop := Claim7.holds Tryd.pinned (.plain (OpenSpec.ofChange digitsBackSpec)) digitsBackCard

/-- THE TIED CARD OF 'rifflelaw10.DigitsLists'. -/
def digitsListsCard : Claim7 := { stood := { row := digitsListsRow, standIns := [], harness := (true, "ed935ed055b093863e15003ef3e6e9a9e1058493ab5605a15dee301033e28700"), looks := false }, kinds := [], alts := [], laidByText := true, laidKinds := [.data, .data, .data], laidTests := true, laidLooks := .later }
def DigitsListsCardSaid : Prop := Claim7.holds Tryd.pinned (.plain (OpenSpec.ofChange digitsListsSpec)) digitsListsCard

/-- THE SECOND FORM's CARD OF 'rifflelaw09.ProductInners'. -/
def productInnersUptoCard : Claim7 := { stood := { row := productInnersUptoRow, standIns := [], harness := (true, "ed935ed055b093863e15003ef3e6e9a9e1058493ab5605a15dee301033e28700"), looks := false }, kinds := [], alts := [], laidByText := true, laidKinds := [.data], laidTests := true, laidLooks := .later }
def ProductInnersUptoCardSaid : Prop := Claim7.holds Tryd.pinned (.plain (OpenSpec.upto productInnersSpec)) productInnersUptoCard

/-- THE SECOND FORM's CARD OF 'rifflelaw09.ProductOuters'. -/
def productOutersUptoCard : Claim7 := { stood := { row := productOutersUptoRow, standIns := [], harness := (true, "ed935ed055b093863e15003ef3e6e9a9e1058493ab5605a15dee301033e28700"), looks := false }, kinds := [], alts := [], laidByText := true, laidKinds := [.data], laidTests := true, laidLooks := .later }
def ProductOutersUptoCardSaid : Prop := Claim7.holds Tryd.pinned (.plain (OpenSpec.upto productOutersSpec)) productOutersUptoCard

/-- THE SECOND FORM's CARD OF 'rifflelaw09.ProductItems'. -/
def productItemsUptoCard : Claim7 := { stood := { row := productItemsUptoRow, standIns := [], harness := (true, "ed935ed055b093863e15003ef3e6e9a9e1058493ab5605a15dee301033e28700"), looks := false }, kinds := [], alts := [], laidByText := true, laidKinds := [.data], laidTests := true, laidLooks := .later }
def ProductItemsUptoCardSaid : Prop := Claim7.holds Tryd.pinned (.plain (OpenSpec.upto productItemsSpec)) productItemsUptoCard

/-- THE SECOND FORM's CARD OF 'rifflelaw09.ProductTurns'. -/
def productTurnsUptoCard : Claim7 := { stood := { row := productTurnsUptoRow, standIns := [], harness := (true, "ed935ed055b093863e15003ef3e6e9a9e1058493ab5605a15dee301033e28700"), looks := false }, kinds := [], alts := [], laidByText := true, laidKinds := [.data], laidTests := true, laidLooks := .later }
def ProductTurnsUptoCardSaid : Prop := Claim7.holds Tryd.pinned (.plain (OpenSpec.upto productTurnsSpec)) productTurnsUptoCard

/-- THE SECOND FORM's CARD OF 'rifflelaw10.DigitsTells'. -/
def digitsTellsUptoCard : Claim7 := { stood := { row := digitsTellsUptoRow, standIns := [], harness := (true, "ed935ed055b093863e15003ef3e6e9a9e1058493ab5605a15dee301033e28700"), looks := false }, kinds := [], alts := [], laidByText := true, laidKinds := [.data, .data, .data], laidTests := true, laidLooks := .later }
def DigitsTellsUptoCardSaid : Prop := Claim7.holds Tryd.pinned (.plain (OpenSpec.upto digitsTellsSpec)) digitsTellsUptoCard

/-- THE SECOND FORM's CARD OF 'rifflelaw10.DigitsWords'. -/
def digitsWordsUptoCard : Claim7 := { stood := { row := digitsWordsUptoRow, standIns := [], harness := (true, "ed935ed055b093863e15003ef3e6e9a9e1058493ab5605a15dee301033e28700"), looks := false }, kinds := [], alts := [], laidByText := true, laidKinds := [.data, .data, .data], laidTests := true, laidLooks := .later }
def DigitsWordsUptoCardSaid : Prop := Claim7.holds Tryd.pinned (.plain (OpenSpec.upto digitsWordsSpec)) digitsWordsUptoCard

/-- THE SECOND FORM's CARD OF 'rifflelaw10.DigitsBack'. -/
def digitsBackUptoCard : Claim7 := { stood := { row := digitsBackUptoRow, standIns := [], harness := (true, "ed935ed055b093863e15003ef3e6e9a9e1058493ab5605a15dee301033e28700"), looks := false }, kinds := [], alts := [], laidByText := true, laidKinds := [.data, .data, .data], laidTests := true, laidLooks := .later }
def DigitsBackUptoCardSaid : Prop := Claim7.holds Tryd.pinned (.plain (OpenSpec.upto digitsBackSpec)) digitsBackUptoCard

/-- THE SECOND FORM's CARD OF 'rifflelaw10.DigitsLists'. -/
def digitsListsUptoCard : Claim7 := { stood := { row := digitsListsUptoRow, standIns := [], harness := (true, "ed935ed055b093863e15003ef3e6e9a9e1058493ab5605a15dee301033e28700"), looks := false }, kinds := [], alts := [], laidByText := true, laidKinds := [.data, .data, .data], laidTests := true, laidLooks := .later }
def DigitsListsUptoCardSaid : Prop := Claim7.holds Tryd.pinned (.plain (OpenSpec.upto digitsListsSpec)) digitsListsUptoCard
end Rows
end Go.Proofs.YtocdejjkmfnnnaaDoor
