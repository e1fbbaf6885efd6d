/-
  DERIVED. GIVEN WITH THE SEED: THE CARDS: each row of YtbanegjmapgkdaaDoorRows.lean that lists a variable, with what it lists TIED to the program's text (the seventh form; the later family's looks); each row that meets fmt, with fmt's text TOLD by the authors' own Lean function (tested against real Go, not proved from fmt's source: count such statements apart). THE CARD IS WHAT COUNTS. Prove the row's statement (the work); the ties are given (YtbanegjmapgkdaaDoorTie.lean); close each card by the builder's one call (the guide's Derived/Test/ToyasCard.lean, 'card_holds'). Laid BY PROGRAM, IN A SANDBOX (cutbox-door.mjs). By AI agents, Wed Nov 11 2026. No macro, syntax, notation, axiom, sorry.
-/
import Derived.Test.YtbanegjmapgkdaaDoorRows
import GoSem.ClaimSeven
namespace Go.Proofs.YtbanegjmapgkdaaDoor
namespace Rows

/-- THE TIED CARD OF 'rifflelaw09.ProductInners'. -/
def productInnersCard : Claim7 := { stood := { row := productInnersRow, standIns := [], harness := (true, "cb6c4c7fe9e78526a6a733c2528da9b2fda6d95bb308cd8f665a68ffc2d02311"), looks := true }, kinds := [], alts := [], laidByText := true, laidKinds := [.data], laidTests := true, laidLooks := .later }
def ProductInnersCardSaid : Prop := Claim7.holds Tryd.pinned (.plain (OpenSpec.ofChange productInnersSpec)) productInnersCard

/-- THE TIED CARD OF 'rifflelaw09.ProductOuters'. -/
def productOutersCard : Claim7 := { stood := { row := productOutersRow, standIns := [], harness := (true, "cb6c4c7fe9e78526a6a733c2528da9b2fda6d95bb308cd8f665a68ffc2d02311"), looks := true }, kinds := [], alts := [], laidByText := true, laidKinds := [.data], laidTests := true, laidLooks := .later }
def ProductOutersCardSaid : Prop := Claim7.holds Tryd.pinned (.plain (OpenSpec.ofChange productOutersSpec)) productOutersCard

/-- THE TIED CARD OF 'rifflelaw09.ProductItems'. -/
def productItemsCard : Claim7 := { stood := { row := productItemsRow, standIns := [], harness := (true, "cb6c4c7fe9e78526a6a733c2528da9b2fda6d95bb308cd8f665a68ffc2d02311"), looks := true }, kinds := [], alts := [], laidByText := true, laidKinds := [.data], laidTests := true, laidLooks := .later }
def ProductItemsCardSaid : Prop := Claim7.holds Tryd.pinned (.plain (OpenSpec.ofChange productItemsSpec)) productItemsCard

/-- THE TIED CARD OF 'rifflelaw09.ProductTurns'. -/
def productTurnsCard : Claim7 := { stood := { row := productTurnsRow, standIns := [], harness := (true, "cb6c4c7fe9e78526a6a733c2528da9b2fda6d95bb308cd8f665a68ffc2d02311"), looks := true }, kinds := [], alts := [], laidByText := true, laidKinds := [.data], laidTests := true, laidLooks := .later }
def ProductTurnsCardSaid : Prop := Claim7.holds Tryd.pinned (.plain (OpenSpec.ofChange productTurnsSpec)) productTurnsCard

/-- THE TIED CARD OF 'rifflelaw17.TokenLexes'. -/
def tokenLexesCard : Claim7 := { stood := { row := tokenLexesRow, standIns := [], harness := (true, "cb6c4c7fe9e78526a6a733c2528da9b2fda6d95bb308cd8f665a68ffc2d02311"), looks := true }, kinds := [], alts := [], laidByText := true, laidKinds := [.data, .pinned], laidTests := true, laidLooks := .later }
def TokenLexesCardSaid : Prop := Claim7.holds Tryd.pinned (.plain (OpenSpec.ofChange tokenLexesSpec)) tokenLexesCard

/-- THE TIED CARD OF 'rifflelaw17.TokenRises'. -/
def tokenRisesCard : Claim7 := { stood := { row := tokenRisesRow, standIns := [], harness := (true, "cb6c4c7fe9e78526a6a733c2528da9b2fda6d95bb308cd8f665a68ffc2d02311"), looks := true }, kinds := [], alts := [], laidByText := true, laidKinds := [.data, .pinned], laidTests := true, laidLooks := .later }
def TokenRisesCardSaid : Prop := Claim7.holds Tryd.pinned (.plain (OpenSpec.ofChange tokenRisesSpec)) tokenRisesCard

/-- THE TIED CARD OF 'rifflelaw17.TokenBlanks'. -/
def tokenBlanksCard : Claim7 := { stood := { row := tokenBlanksRow, standIns := [], harness := (true, "cb6c4c7fe9e78526a6a733c2528da9b2fda6d95bb308cd8f665a68ffc2d02311"), looks := true }, kinds := [], alts := [], laidByText := true, laidKinds := [.data, .pinned], laidTests := true, laidLooks := .later }
def TokenBlanksCardSaid : Prop := Claim7.holds Tryd.pinned (.plain (OpenSpec.ofChange tokenBlanksSpec)) tokenBlanksCard

/-- THE SECOND FORM's CARD OF 'rifflelaw09.ProductInners'. -/
def productInnersUptoCard : Claim7 := { stood := { row := productInnersUptoRow, standIns := [], harness := (true, "cb6c4c7fe9e78526a6a733c2528da9b2fda6d95bb308cd8f665a68ffc2d02311"), looks := true }, kinds := [], alts := [], laidByText := true, laidKinds := [.data], laidTests := true, laidLooks := .later }
def ProductInnersUptoCardSaid : Prop := Claim7.holds Tryd.pinned (.plain (OpenSpec.upto productInnersSpec)) productInnersUptoCard

/-- THE SECOND FORM's CARD OF 'rifflelaw09.ProductOuters'. -/
def productOutersUptoCard : Claim7 := { stood := { row := productOutersUptoRow, standIns := [], harness := (true, "cb6c4c7fe9e78526a6a733c2528da9b2fda6d95bb308cd8f665a68ffc2d02311"), looks := true }, kinds := [], alts := [], laidByText := true, laidKinds := [.data], laidTests := true, laidLooks := .later }
def ProductOutersUptoCardSaid : Prop := Claim7.holds Tryd.pinned (.plain (OpenSpec.upto productOutersSpec)) productOutersUptoCard

/-- THE SECOND FORM's CARD OF 'rifflelaw09.ProductItems'. -/
def productItemsUptoCard : Claim7 := { stood := { row := productItemsUptoRow, standIns := [], harness := (true, "cb6c4c7fe9e78526a6a733c2528da9b2fda6d95bb308cd8f665a68ffc2d02311"), looks := true }, kinds := [], alts := [], laidByText := true, laidKinds := [.data], laidTests := true, laidLooks := .later }
def ProductItemsUptoCardSaid : Prop := Claim7.holds Tryd.pinned (.plain (OpenSpec.upto productItemsSpec)) productItemsUptoCard

/-- THE SECOND FORM's CARD OF 'rifflelaw09.ProductTurns'. -/
def productTurnsUptoCard : Claim7 := { stood := { row := productTurnsUptoRow, standIns := [], harness := (true, "cb6c4c7fe9e78526a6a733c2528da9b2fda6d95bb308cd8f665a68ffc2d02311"), looks := true }, kinds := [], alts := [], laidByText := true, laidKinds := [.data], laidTests := true, laidLooks := .later }
def ProductTurnsUptoCardSaid : Prop := Claim7.holds Tryd.pinned (.plain (OpenSpec.upto productTurnsSpec)) productTurnsUptoCard

/-- THE SECOND FORM's CARD OF 'rifflelaw17.TokenLexes'. -/
def tokenLexesUptoCard : Claim7 := { stood := { row := tokenLexesUptoRow, standIns := [], harness := (true, "cb6c4c7fe9e78526a6a733c2528da9b2fda6d95bb308cd8f665a68ffc2d02311"), looks := true }, kinds := [], alts := [], laidByText := true, laidKinds := [.data, .pinned], laidTests := true, laidLooks := .later }
def TokenLexesUptoCardSaid : Prop := Claim7.holds Tryd.pinned (.plain (OpenSpec.upto tokenLexesSpec)) tokenLexesUptoCard

/-- THE SECOND FORM's CARD OF 'rifflelaw17.TokenRises'. -/
def tokenRisesUptoCard : Claim7 := { stood := { row := tokenRisesUptoRow, standIns := [], harness := (true, "cb6c4c7fe9e78526a6a733c2528da9b2fda6d95bb308cd8f665a68ffc2d02311"), looks := true }, kinds := [], alts := [], laidByText := true, laidKinds := [.data, .pinned], laidTests := true, laidLooks := .later }
def TokenRisesUptoCardSaid : Prop := Claim7.holds Tryd.pinned (.plain (OpenSpec.upto tokenRisesSpec)) tokenRisesUptoCard

/-- THE SECOND FORM's CARD OF 'rifflelaw17.TokenBlanks'. -/
def tokenBlanksUptoCard : Claim7 := { stood := { row := tokenBlanksUptoRow, standIns := [], harness := (true, "cb6c4c7fe9e78526a6a733c2528da9b2fda6d95bb308cd8f665a68ffc2d02311"), looks := true }, kinds := [], alts := [], laidByText := true, laidKinds := [.data, .pinned], laidTests := true, laidLooks := .later }
def TokenBlanksUptoCardSaid : Prop := Claim7.holds Tryd.pinned (.plain (OpenSpec.upto tokenBlanksSpec)) tokenBlanksUptoCard
end Rows
end Go.Proofs.YtbanegjmapgkdaaDoor
