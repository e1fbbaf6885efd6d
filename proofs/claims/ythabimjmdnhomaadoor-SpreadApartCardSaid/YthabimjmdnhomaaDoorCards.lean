/-
  DERIVED. GIVEN WITH THE SEED: THE CARDS: each row of YthabimjmdnhomaaDoorRows.lean that lists a variable, with what it lists TIED to the program's text (the seventh form; the later family's looks); each row that meets fmt, with fmt's text TOLD by the authors' own Lean function (tested against real Go, not proved from fmt's source: count such statements apart). THE CARD IS WHAT COUNTS. Prove the row's statement (the work); the ties are given (YthabimjmdnhomaaDoorTie.lean); close each card by the builder's one call (the guide's Derived/Test/ToyasCard.lean, 'card_holds'). Laid BY PROGRAM, IN A SANDBOX (cutbox-door.mjs). By AI agents, Wed Nov 11 2026. No macro, syntax, notation, axiom, sorry.
-/
import Derived.Test.YthabimjmdnhomaaDoorRows
import GoSem.ClaimSeven
namespace Go.Proofs.YthabimjmdnhomaaDoor
namespace Rows

/-- THE TIED CARD OF 'rifflelaw05.SpreadFits'. -/
def spreadFitsCard : Claim7 := { stood := { row := spreadFitsRow, standIns := [], harness := (true, "5d67307d293aac1362d76c5d4040f9349210c35ea1d8433b7728079bdb4bbc90"), looks := false }, kinds := [], alts := [], laidByText := true, laidKinds := [.data], laidTests := true, laidLooks := .later }
def SpreadFitsCardSaid : Prop := Claim7.holds Tryd.pinned (.plain (OpenSpec.ofChange spreadFitsSpec)) spreadFitsCard

/-- THE TIED CARD OF 'rifflelaw05.SpreadTwos'. -/
def spreadTwosCard : Claim7 := { stood := { row := spreadTwosRow, standIns := [], harness := (true, "5d67307d293aac1362d76c5d4040f9349210c35ea1d8433b7728079bdb4bbc90"), looks := false }, kinds := [], alts := [], laidByText := true, laidKinds := [.data], laidTests := true, laidLooks := .later }
def SpreadTwosCardSaid : Prop := Claim7.holds Tryd.pinned (.plain (OpenSpec.ofChange spreadTwosSpec)) spreadTwosCard

/-- THE TIED CARD OF 'rifflelaw05.SpreadOnes'. -/
def spreadOnesCard : Claim7 := { stood := { row := spreadOnesRow, standIns := [], harness := (true, "5d67307d293aac1362d76c5d4040f9349210c35ea1d8433b7728079bdb4bbc90"), looks := false }, kinds := [], alts := [], laidByText := true, laidKinds := [.data], laidTests := true, laidLooks := .later }
def SpreadOnesCardSaid : Prop := Claim7.holds Tryd.pinned (.plain (OpenSpec.ofChange spreadOnesSpec)) spreadOnesCard

/-- THE TIED CARD OF 'rifflelaw05.SpreadApart'. -/
def spreadApartCard : Claim7 := { stood := { row := spreadApartRow, standIns := [], harness := (true, "5d67307d293aac1362d76c5d4040f9349210c35ea1d8433b7728079bdb4bbc90"), looks := false }, kinds := [], alts := [], laidByText := true, laidKinds := [.data], laidTests := true, laidLooks := .later }
def SpreadApartCardSaid : Prop := Claim7.holds Tryd.pinned (.plain (OpenSpec.ofChange spreadApartSpec)) spreadApartCard

/-- THE SECOND FORM's CARD OF 'rifflelaw05.SpreadFits'. -/
def spreadFitsUptoCard : Claim7 := { stood := { row := spreadFitsUptoRow, standIns := [], harness := (true, "5d67307d293aac1362d76c5d4040f9349210c35ea1d8433b7728079bdb4bbc90"), looks := false }, kinds := [], alts := [], laidByText := true, laidKinds := [.data], laidTests := true, laidLooks := .later }
def SpreadFitsUptoCardSaid : Prop := Claim7.holds Tryd.pinned (.plain (OpenSpec.upto spreadFitsSpec)) spreadFitsUptoCard

/-- THE SECOND FORM's CARD OF 'rifflelaw05.SpreadTwos'. -/
def spreadTwosUptoCard : Claim7 := { stood := { row := spreadTwosUptoRow, standIns := [], harness := (true, "5d67307d293aac1362d76c5d4040f9349210c35ea1d8433b7728079bdb4bbc90"), looks := false }, kinds := [], alts := [], laidByText := true, laidKinds := [.data], laidTests := true, laidLooks := .later }
def SpreadTwosUptoCardSaid : Prop := Claim7.holds Tryd.pinned (.plain (OpenSpec.upto spreadTwosSpec)) spreadTwosUptoCard

/-- THE SECOND FORM's CARD OF 'rifflelaw05.SpreadOnes'. -/
def spreadOnesUptoCard : Claim7 := { stood := { row := spreadOnesUptoRow, standIns := [], harness := (true, "5d67307d293aac1362d76c5d4040f9349210c35ea1d8433b7728079bdb4bbc90"), looks := false }, kinds := [], alts := [], laidByText := true, laidKinds := [.data], laidTests := true, laidLooks := .later }
def SpreadOnesUptoCardSaid : Prop := Claim7.holds Tryd.pinned (.plain (OpenSpec.upto spreadOnesSpec)) spreadOnesUptoCard

/-- THE SECOND FORM's CARD OF 'rifflelaw05.SpreadApart'. -/
def spreadApartUptoCard : Claim7 := { stood := { row := spreadApartUptoRow, standIns := [], harness := (true, "5d67307d293aac1362d76c5d4040f9349210c35ea1d8433b7728079bdb4bbc90"), looks := false }, kinds := [], alts := [], laidByText := true, laidKinds := [.data], laidTests := true, laidLooks := .later }
def SpreadApartUptoCardSaid : Prop := Claim7.holds Tryd.pinned (.plain (OpenSpec.upto spreadApartSpec)) spreadApartUptoCard
end Rows
end Go.Proofs.YthabimjmdnhomaaDoor
