/-
  DERIVED. GIVEN WITH THE SEED: THE CARDS: each row of YtdjckobbemkhbaaDoorRows.lean that lists a variable, with what it lists TIED to the program's text (the seventh form; the later family's looks); each row that meets fmt, with fmt's text TOLD by the authors' own Lean function (tested against real Go, not proved from fmt's source: count such statements apart). THE CARD IS WHAT COUNTS. Prove the row's statement (the work); the ties are given (YtdjckobbemkhbaaDoorTie.lean); close each card by the builder's one call (the guide's Derived/Test/ToyasCard.lean, 'card_holds'). Laid BY PROGRAM, IN A SANDBOX (cutbox-door.mjs). By AI agents, Wed Nov 11 2026. No macro, syntax, notation, axiom, sorry.
-/
import Derived.Test.YtdjckobbemkhbaaDoorRows
import GoSem.ClaimSeven
namespace Go.Proofs.YtdjckobbemkhbaaDoor
namespace Rows

/-- THE TIED CARD OF 'rifflelaw02.GlyphTells'. -/
def glyphTellsCard : Claim7 := { stood := { row := glyphTellsRow, standIns := [], harness := (true, "dc72b88cb2f055ca246d17274aa6f39cb3b44818cfa7c35a30388244c762d033"), looks := false }, kinds := [], alts := [], laidByText := true, laidKinds := [.data, .pinned], laidTests := true, laidLooks := .later }
def GlyphTellsCardSaid : Prop := Claim7.holds Tryd.pinned (.plain (OpenSpec.ofChange glyphTellsSpec)) glyphTellsCard

/-- THE TIED CARD OF 'rifflelaw02.GlyphFirst'. -/
def glyphFirstCard : Claim7 := { stood := { row := glyphFirstRow, standIns := [], harness := (true, "dc72b88cb2f055ca246d17274aa6f39cb3b44818cfa7c35a30388244c762d033"), looks := false }, kinds := [], alts := [], laidByText := true, laidKinds := [.data, .pinned], laidTests := true, laidLooks := .later }
def GlyphFirstCardSaid : Prop := Claim7.holds Tryd.pinned (.plain (OpenSpec.ofChange glyphFirstSpec)) glyphFirstCard

/-- THE TIED CARD OF 'rifflelaw02.GlyphCodes'. -/
def glyphCodesCard : Claim7 := { stood := { row := glyphCodesRow, standIns := [], harness := (true, "dc72b88cb2f055ca246d17274aa6f39cb3b44818cfa7c35a30388244c762d033"), looks := false }, kinds := [], alts := [], laidByText := true, laidKinds := [.data, .pinned], laidTests := true, laidLooks := .later }
def GlyphCodesCardSaid : Prop := Claim7.holds Tryd.pinned (.plain (OpenSpec.ofChange glyphCodesSpec)) glyphCodesCard

/-- THE TIED CARD OF 'rifflelaw02.GlyphBack'. -/
def glyphBackCard : Claim7 := { stood := { row := glyphBackRow, standIns := [], harness := (true, "dc72b88cb2f055ca246d17274aa6f39cb3b44818cfa7c35a30388244c762d033"), looks := false }, kinds := [], alts := [], laidByText := true, laidKinds := [.data, .pinned], laidTests := true, laidLooks := .later }
def GlyphBackCardSaid : Prop := Claim7.holds Tryd.pinned (.plain (OpenSpec.ofChange glyphBackSpec)) glyphBackCard

/-- THE SECOND FORM's CARD OF 'rifflelaw02.GlyphTells'. -/
def glyphTellsUptoCard : Claim7 := { stood := { row := glyphTellsUptoRow, standIns := [], harness := (true, "dc72b88cb2f055ca246d17274aa6f39cb3b44818cfa7c35a30388244c762d033"), looks := false }, kinds := [], alts := [], laidByText := true, laidKinds := [.data, .pinned], laidTests := true, laidLooks := .later }
def GlyphTellsUptoCardSaid : Prop := Claim7.holds Tryd.pinned (.plain (OpenSpec.upto glyphTellsSpec)) glyphTellsUptoCard

/-- THE SECOND FORM's CARD OF 'rifflelaw02.GlyphFirst'. -/
def glyphFirstUptoCard : Claim7 := { stood := { row := glyphFirstUptoRow, standIns := [], harness := (true, "dc72b88cb2f055ca246d17274aa6f39cb3b44818cfa7c35a30388244c762d033"), looks := false }, kinds := [], alts := [], laidByText := true, laidKinds := [.data, .pinned], laidTests := true, laidLooks := .later }
def GlyphFirstUptoCardSaid : Prop := Claim7.holds Tryd.pinned (.plain (OpenSpec.upto glyphFirstSpec)) glyphFirstUptoCard

/-- THE SECOND FORM's CARD OF 'rifflelaw02.GlyphCodes'. -/
def glyphCodesUptoCard : Claim7 := { stood := { row := glyphCodesUptoRow, standIns := [], harness := (true, "dc72b88cb2f055ca246d17274aa6f39cb3b44818cfa7c35a30388244c762d033"), looks := false }, kinds := [], alts := [], laidByText := true, laidKinds := [.data, .pinned], laidTests := true, laidLooks := .later }
def GlyphCodesUptoCardSaid : Prop := Claim7.holds Tryd.pinned (.plain (OpenSpec.upto glyphCodesSpec)) glyphCodesUptoCard

/-- THE SECOND FORM's CARD OF 'rifflelaw02.GlyphBack'. -/
def glyphBackUptoCard : Claim7 := { stood := { row := glyphBackUptoRow, standIns := [], harness := (true, "dc72b88cb2f055ca246d17274aa6f39cb3b44818cfa7c35a30388244c762d033"), looks := false }, kinds := [], alts := [], laidByText := true, laidKinds := [.data, .pinned], laidTests := true, laidLooks := .later }
def GlyphBackUptoCardSaid : Prop := Claim7.holds Tryd.pinned (.plain (OpenSpec.upto glyphBackSpec)) glyphBackUptoCard
end Rows
end Go.Proofs.YtdjckobbemkhbaaDoor
