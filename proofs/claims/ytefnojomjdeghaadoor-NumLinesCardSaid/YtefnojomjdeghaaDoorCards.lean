/-
  DERIVED. GIVEN WITH THE SEED: THE CARDS: each row of YtefnojomjdeghaaDoorRows.lean that lists a variable, with what it lists TIED to the program's text (the seventh form; the later family's looks); each row that meets fmt, with fmt's text TOLD by the authors' own Lean function (tested against real Go, not proved from fmt's source: count such statements apart). THE CARD IS WHAT COUNTS. Prove the row's statement (the work); the ties are given (YtefnojomjdeghaaDoorTie.lean); close each card by the builder's one call (the guide's Derived/Test/ToyasCard.lean, 'card_holds'). Laid BY PROGRAM, IN A SANDBOX (cutbox-door.mjs). By AI agents, Wed Nov 11 2026. No macro, syntax, notation, axiom, sorry.
-/
import Derived.Test.YtefnojomjdeghaaDoorRows
import GoSem.ClaimSeven
namespace Go.Proofs.YtefnojomjdeghaaDoor
namespace Rows

/-- THE TIED CARD OF 'broughamlaw01.NumTexts'. -/
def numTextsCard : Claim7 := { stood := { row := numTextsRow, standIns := [], harness := (true, "b82a791f764fcc707ed6bdf596c44161331f36f8d3b8c4f37e2ed54cd21c59a2"), looks := false }, kinds := [], alts := [], laidByText := true, laidKinds := [.data, .data, .data], laidTests := true, laidLooks := .later }
def NumTextsCardSaid : Prop := Claim7.holds Tryd.pinned (.plain (OpenSpec.ofChange numTextsSpec)) numTextsCard

/-- THE TIED CARD OF 'broughamlaw01.NumHex'. -/
def numHexCard : Claim7 := { stood := { row := numHexRow, standIns := [], harness := (true, "b82a791f764fcc707ed6bdf596c44161331f36f8d3b8c4f37e2ed54cd21c59a2"), looks := false }, kinds := [], alts := [], laidByText := true, laidKinds := [.data, .data, .data], laidTests := true, laidLooks := .later }
def NumHexCardSaid : Prop := Claim7.holds Tryd.pinned (.plain (OpenSpec.ofChange numHexSpec)) numHexCard

/-- THE TIED CARD OF 'broughamlaw01.NumLines'. -/
def numLinesCard : Claim7 := { stood := { row := numLinesRow, standIns := [], harness := (true, "b82a791f764fcc707ed6bdf596c44161331f36f8d3b8c4f37e2ed54cd21c59a2"), looks := false }, kinds := [], alts := [], laidByText := true, laidKinds := [.data, .data, .data], laidTests := true, laidLooks := .later }
def NumLinesCardSaid : Prop := Claim7.holds Tryd.pinned (.plain (OpenSpec.ofChange numLinesSpec)) numLinesCard

/-- THE SECOND FORM's CARD OF 'broughamlaw01.NumTexts'. -/
def numTextsUptoCard : Claim7 := { stood := { row := numTextsUptoRow, standIns := [], harness := (true, "b82a791f764fcc707ed6bdf596c44161331f36f8d3b8c4f37e2ed54cd21c59a2"), looks := false }, kinds := [], alts := [], laidByText := true, laidKinds := [.data, .data, .data], laidTests := true, laidLooks := .later }
def NumTextsUptoCardSaid : Prop := Claim7.holds Tryd.pinned (.plain (OpenSpec.upto numTextsSpec)) numTextsUptoCard

/-- THE SECOND FORM's CARD OF 'broughamlaw01.NumHex'. -/
def numHexUptoCard : Claim7 := { stood := { row := numHexUptoRow, standIns := [], harness := (true, "b82a791f764fcc707ed6bdf596c44161331f36f8d3b8c4f37e2ed54cd21c59a2"), looks := false }, kinds := [], alts := [], laidByText := true, laidKinds := [.data, .data, .data], laidTests := true, laidLooks := .later }
def NumHexUptoCardSaid : Prop := Claim7.holds Tryd.pinned (.plain (OpenSpec.upto numHexSpec)) numHexUptoCard

/-- THE SECOND FORM's CARD OF 'broughamlaw01.NumLines'. -/
def numLinesUptoCard : Claim7 := { stood := { row := numLinesUptoRow, standIns := [], harness := (true, "b82a791f764fcc707ed6bdf596c44161331f36f8d3b8c4f37e2ed54cd21c59a2"), looks := false }, kinds := [], alts := [], laidByText := true, laidKinds := [.data, .data, .data], laidTests := true, laidLooks := .later }
def NumLinesUptoCardSaid : Prop := Claim7.holds Tryd.pinned (.plain (OpenSpec.upto numLinesSpec)) numLinesUptoCard
end Rows
end Go.Proofs.YtefnojomjdeghaaDoor
