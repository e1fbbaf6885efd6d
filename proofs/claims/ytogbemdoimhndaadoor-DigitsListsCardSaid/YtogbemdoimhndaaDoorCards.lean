/-
  DERIVED. GIVEN WITH THE SEED: THE CARDS: each row of YtogbemdoimhndaaDoorRows.lean that lists a variable, with what it lists TIED to the program's text (the seventh form; the later family's looks); each row that meets fmt, with fmt's text TOLD by the authors' own Lean function (tested against real Go, not proved from fmt's source: count such statements apart). THE CARD IS WHAT COUNTS. Prove the row's statement (the work); the ties are given (YtogbemdoimhndaaDoorTie.lean); close each card by the builder's one call (the guide's Derived/Test/ToyasCard.lean, 'card_holds'). Laid BY PROGRAM, IN A SANDBOX (cutbox-door.mjs). By AI agents, Wed Nov 11 2026. No macro, syntax, notation, axiom, sorry.
-/
import Derived.Test.YtogbemdoimhndaaDoorRows
import GoSem.ClaimSeven
namespace Go.Proofs.YtogbemdoimhndaaDoor
namespace Rows

/-- THE TIED CARD OF 'rifflelaw09.ProductInners'. -/
def productInnersCard : Claim7 := { stood := { row := productInnersRow, standIns := [], harness := (true, "592954b6dccb13b29868415b39c0b9ea560d5c46cd20fea499e671c3ca332299"), looks := false }, kinds := [], alts := [], laidByText := true, laidKinds := [.data], laidTests := true, laidLooks := .later }
def ProductInnersCardSaid : Prop := Claim7.holds Tryd.pinned (.plain (OpenSpec.ofChange productInnersSpec)) productInnersCard

/-- THE TIED CARD OF 'rifflelaw09.ProductOuters'. -/
def productOutersCard : Claim7 := { stood := { row := productOutersRow, standIns := [], harness := (true, "592954b6dccb13b29868415b39c0b9ea560d5c46cd20fea499e671c3ca332299"), looks := false }, kinds := [], alts := [], laidByText := true, laidKinds := [.data], laidTests := true, laidLooks := .later }
def ProductOutersCardSaid : Prop := Claim7.holds Tryd.pinned (.plain (OpenSpec.ofChange productOutersSpec)) productOutersCard

/-- THE TIED CARD OF 'rifflelaw09.ProductItems'. -/
def productItemsCard : Claim7 := { stood := { row := productItemsRow, standIns := [], harness := (true, "592954b6dccb13b29868415b39c0b9ea560d5c46cd20fea499e671c3ca332299"), looks := false }, kinds := [], alts := [], laidByText := true, laidKinds := [.data], laidTests := true, laidLooks := .later }
def ProductItemsCardSaid : Prop := Claim7.holds Tryd.pinned (.plain (OpenSpec.ofChange productItemsSpec)) productItemsCard

/-- THE TIED CARD OF 'rifflelaw09.ProductTurns'. -/
def productTurnsCard : Claim7 := { stood := { row := productTurnsRow, standIns := [], harness := (true, "592954b6dccb13b29868415b39c0b9ea560d5c46cd20fea499e671c3ca332299"), looks := false }, kinds := [], alts := [], laidByText := true, laidKinds := [.data], laidTests := true, laidLooks := .later }
def ProductTurnsCardSaid : Prop := Claim7.holds Tryd.pinned (.plain (OpenSpec.ofChange productTurnsSpec)) productTurnsCard

/-- THE TIED CARD OF 'rifflelaw10.DigitsTells'. -/
def digitsTellsCard : Claim7 := { stood := { row := digitsTellsRow, standIns := [], harness := (true, "592954b6dccb13b29868415b39c0b9ea560d5c46cd20fea499e671c3ca332299"), looks := false }, kinds := [], alts := [], laidByText := true, laidKinds := [.data, .data, .data], laidTests := true, laidLooks := .later }
def DigitsTellsCardSaid : Prop := Claim7.holds Tryd.pinned (.plain (OpenSpec.ofChange digitsTellsSpec)) digitsTellsCard

/-- THE TIED CARD OF 'rifflelaw10.DigitsWords'. -/
def digitsWordsCard : Claim7 := { stood := { row := digitsWordsRow, standIns := [], harness := (true, "592954b6dccb13b29868415b39c0b9ea560d5c46cd20fea499e671c3ca332299"), looks := false }, kinds := [], alts := [], laidByText := true, laidKinds := [.data, .data, .data], laidTests := true, laidLooks := .later }
def DigitsWordsCardSaid : Prop := Claim7.holds Tryd.pinned (.plain (OpenSpec.ofChange digitsWordsSpec)) digitsWordsCard

/-- THE TIED CARD OF 'rifflelaw10.DigitsLists'. -/
def digitsListsCard : Claim7 := { stood := { row := digitsListsRow, standIns := [], harness := (true, "592954b6dccb13b29868415b39c0b9ea560d5c46cd20fea499e671c3ca332299"), looks := false }, kinds := [], alts := [], laidByText := true, laidKinds := [.data, .data, .data], laidTests := true, laidLooks := .later }
def DigitsListsCardSaid : Prop := Claim7.holds Tryd.pinned (.plain (OpenSpec.ofChange digitsListsSpec)) digitsListsCard

/-- THE TIED CARD OF 'rifflelaw14.RunnerPlays'. -/
def runnerPlaysCard : Claim7 := { stood := { row := runnerPlaysRow, standIns := [], harness := (true, "592954b6dccb13b29868415b39c0b9ea560d5c46cd20fea499e671c3ca332299"), looks := false }, kinds := [], alts := [], laidByText := true, laidKinds := [.data], laidTests := true, laidLooks := .later }
def RunnerPlaysCardSaid : Prop := Claim7.holds Tryd.pinned (.plain (OpenSpec.ofChange runnerPlaysSpec)) runnerPlaysCard

/-- THE TIED CARD OF 'rifflelaw14.RunnerApart'. -/
def runnerApartCard : Claim7 := { stood := { row := runnerApartRow, standIns := [], harness := (true, "592954b6dccb13b29868415b39c0b9ea560d5c46cd20fea499e671c3ca332299"), looks := false }, kinds := [], alts := [], laidByText := true, laidKinds := [.data], laidTests := true, laidLooks := .later }
def RunnerApartCardSaid : Prop := Claim7.holds Tryd.pinned (.plain (OpenSpec.ofChange runnerApartSpec)) runnerApartCard

/-- THE TIED CARD OF 'rifflelaw14.RunnerHangs'. -/
def runnerHangsCard : Claim7 := { stood := { row := runnerHangsRow, standIns := [], harness := (true, "592954b6dccb13b29868415b39c0b9ea560d5c46cd20fea499e671c3ca332299"), looks := false }, kinds := [], alts := [], laidByText := true, laidKinds := [.data], laidTests := true, laidLooks := .later }
def RunnerHangsCardSaid : Prop := Claim7.holds Tryd.pinned (.plain (OpenSpec.ofChange runnerHangsSpec)) runnerHangsCard

/-- THE SECOND FORM's CARD OF 'rifflelaw09.ProductInners'. -/
def productInnersUptoCard : Claim7 := { stood := { row := productInnersUptoRow, standIns := [], harness := (true, "592954b6dccb13b29868415b39c0b9ea560d5c46cd20fea499e671c3ca332299"), looks := false }, kinds := [], alts := [], laidByText := true, laidKinds := [.data], laidTests := true, laidLooks := .later }
def ProductInnersUptoCardSaid : Prop := Claim7.holds Tryd.pinned (.plain (OpenSpec.upto productInnersSpec)) productInnersUptoCard

/-- THE SECOND FORM's CARD OF 'rifflelaw09.ProductOuters'. -/
def productOutersUptoCard : Claim7 := { stood := { row := productOutersUptoRow, standIns := [], harness := (true, "592954b6dccb13b29868415b39c0b9ea560d5c46cd20fea499e671c3ca332299"), looks := false }, kinds := [], alts := [], laidByText := true, laidKinds := [.data], laidTests := true, laidLooks := .later }
def ProductOutersUptoCardSaid : Prop := Claim7.holds Tryd.pinned (.plain (OpenSpec.upto productOutersSpec)) productOutersUptoCard

/-- THE SECOND FORM's CARD OF 'rifflelaw09.ProductItems'. -/
def productItemsUptoCard : Claim7 := { stood := { row := productItemsUptoRow, standIns := [], harness := (true, "592954b6dccb13b29868415b39c0b9ea560d5c46cd20fea499e671c3ca332299"), looks := false }, kinds := [], alts := [], laidByText := true, laidKinds := [.data], laidTests := true, laidLooks := .later }
def ProductItemsUptoCardSaid : Prop := Claim7.holds Tryd.pinned (.plain (OpenSpec.upto productItemsSpec)) productItemsUptoCard

/-- THE SECOND FORM's CARD OF 'rifflelaw09.ProductTurns'. -/
def productTurnsUptoCard : Claim7 := { stood := { row := productTurnsUptoRow, standIns := [], harness := (true, "592954b6dccb13b29868415b39c0b9ea560d5c46cd20fea499e671c3ca332299"), looks := false }, kinds := [], alts := [], laidByText := true, laidKinds := [.data], laidTests := true, laidLooks := .later }
def ProductTurnsUptoCardSaid : Prop := Claim7.holds Tryd.pinned (.plain (OpenSpec.upto productTurnsSpec)) productTurnsUptoCard

/-- THE SECOND FORM's CARD OF 'rifflelaw10.DigitsTells'. -/
def digitsTellsUptoCard : Claim7 := { stood := { row := digitsTellsUptoRow, standIns := [], harness := (true, "592954b6dccb13b29868415b39c0b9ea560d5c46cd20fea499e671c3ca332299"), looks := false }, kinds := [], alts := [], laidByText := true, laidKinds := [.data, .data, .data], laidTests := true, laidLooks := .later }
def DigitsTellsUptoCardSaid : Prop := Claim7.holds Tryd.pinned (.plain (OpenSpec.upto digitsTellsSpec)) digitsTellsUptoCard

/-- THE SECOND FORM's CARD OF 'rifflelaw10.DigitsWords'. -/
def digitsWordsUptoCard : Claim7 := { stood := { row := digitsWordsUptoRow, standIns := [], harness := (true, "592954b6dccb13b29868415b39c0b9ea560d5c46cd20fea499e671c3ca332299"), looks := false }, kinds := [], alts := [], laidByText := true, laidKinds := [.data, .data, .data], laidTests := true, laidLooks := .later }
def DigitsWordsUptoCardSaid : Prop := Claim7.holds Tryd.pinned (.plain (OpenSpec.upto digitsWordsSpec)) digitsWordsUptoCard

/-- THE SECOND FORM's CARD OF 'rifflelaw10.DigitsLists'. -/
def digitsListsUptoCard : Claim7 := { stood := { row := digitsListsUptoRow, standIns := [], harness := (true, "592954b6dccb13b29868415b39c0b9ea560d5c46cd20fea499e671c3ca332299"), looks := false }, kinds := [], alts := [], laidByText := true, laidKinds := [.data, .data, .data], laidTests := true, laidLooks := .later }
def DigitsListsUptoCardSaid : Prop := Claim7.holds Tryd.pinned (.plain (OpenSpec.upto digitsListsSpec)) digitsListsUptoCard

/-- THE SECOND FORM's CARD OF 'rifflelaw14.RunnerPlays'. -/
def runnerPlaysUptoCard : Claim7 := { stood := { row := runnerPlaysUptoRow, standIns := [], harness := (true, "592954b6dccb13b29868415b39c0b9ea560d5c46cd20fea499e671c3ca332299"), looks := false }, kinds := [], alts := [], laidByText := true, laidKinds := [.data], laidTests := true, laidLooks := .later }
def RunnerPlaysUptoCardSaid : Prop := Claim7.holds Tryd.pinned (.plain (OpenSpec.upto runnerPlaysSpec)) runnerPlaysUptoCard

/-- THE SECOND FORM's CARD OF 'rifflelaw14.RunnerApart'. -/
def runnerApartUptoCard : Claim7 := { stood := { row := runnerApartUptoRow, standIns := [], harness := (true, "592954b6dccb13b29868415b39c0b9ea560d5c46cd20fea499e671c3ca332299"), looks := false }, kinds := [], alts := [], laidByText := true, laidKinds := [.data], laidTests := true, laidLooks := .later }
def RunnerApartUptoCardSaid : Prop := Claim7.holds Tryd.pinned (.plain (OpenSpec.upto runnerApartSpec)) runnerApartUptoCard

/-- THE SECOND FORM's CARD OF 'rifflelaw14.RunnerHangs'. -/
def runnerHangsUptoCard : Claim7 := { stood := { row := runnerHangsUptoRow, standIns := [], harness := (true, "592954b6dccb13b29868415b39c0b9ea560d5c46cd20fea499e671c3ca332299"), looks := false }, kinds := [], alts := [], laidByText := true, laidKinds := [.data], laidTests := true, laidLooks := .later }
def RunnerHangsUptoCardSaid : Prop := Claim7.holds Tryd.pinned (.plain (OpenSpec.upto runnerHangsSpec)) runnerHangsUptoCard
end Rows
end Go.Proofs.YtogbemdoimhndaaDoor
