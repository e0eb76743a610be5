/-
  DERIVED. GIVEN WITH THE SEED: THE CARDS: each row of YtpeohgmceadmeaaDoorRows.lean that lists a variable, with what it lists TIED to the program's text (the seventh form; the later family's looks); each row that meets fmt, with fmt's text TOLD by the authors' own Lean function (tested against real Go, not proved from fmt's source: count such statements apart). THE CARD IS WHAT COUNTS. Prove the row's statement (the work); the ties are given (YtpeohgmceadmeaaDoorTie.lean); close each card by the builder's one call (the guide's Derived/Test/ToyasCard.lean, 'card_holds'). Laid BY PROGRAM, IN A SANDBOX (cutbox-door.mjs). By AI agents, Wed Nov 11 2026. No macro, syntax, notation, axiom, sorry.
-/
import Derived.Test.YtpeohgmceadmeaaDoorRows
import GoSem.ClaimSeven
namespace Go.Proofs.YtpeohgmceadmeaaDoor
namespace Rows

/-- THE TIED CARD OF 'switchboardlaw01.LabelKeys'. -/
def labelKeysCard : Claim7 := { stood := { row := labelKeysRow, standIns := [], harness := (true, "382c3eeb3970e219aca2c0d6907d085293ea3fe4654efb64c12016ebb2f2794d"), looks := false }, kinds := [], alts := [], laidByText := true, laidKinds := [.data, .data, .data], laidTests := true, laidLooks := .later }
def LabelKeysCardSaid : Prop := Claim7.holds Tryd.pinned (.plain (OpenSpec.ofChange labelKeysSpec)) labelKeysCard

/-- THE TIED CARD OF 'switchboardlaw01.LabelBack'. -/
def labelBackCard : Claim7 := { stood := { row := labelBackRow, standIns := [], harness := (true, "382c3eeb3970e219aca2c0d6907d085293ea3fe4654efb64c12016ebb2f2794d"), looks := false }, kinds := [], alts := [], laidByText := true, laidKinds := [.data, .data, .data], laidTests := true, laidLooks := .later }
def LabelBackCardSaid : Prop := Claim7.holds Tryd.pinned (.plain (OpenSpec.ofChange labelBackSpec)) labelBackCard

/-- THE TIED CARD OF 'switchboardlaw01.LabelColon'. -/
def labelColonCard : Claim7 := { stood := { row := labelColonRow, standIns := [], harness := (true, "382c3eeb3970e219aca2c0d6907d085293ea3fe4654efb64c12016ebb2f2794d"), looks := false }, kinds := [], alts := [], laidByText := true, laidKinds := [.data, .data, .data], laidTests := true, laidLooks := .later }
def LabelColonCardSaid : Prop := Claim7.holds Tryd.pinned (.plain (OpenSpec.ofChange labelColonSpec)) labelColonCard

/-- THE SECOND FORM's CARD OF 'switchboardlaw01.LabelKeys'. -/
def labelKeysUptoCard : Claim7 := { stood := { row := labelKeysUptoRow, standIns := [], harness := (true, "382c3eeb3970e219aca2c0d6907d085293ea3fe4654efb64c12016ebb2f2794d"), looks := false }, kinds := [], alts := [], laidByText := true, laidKinds := [.data, .data, .data], laidTests := true, laidLooks := .later }
def LabelKeysUptoCardSaid : Prop := Claim7.holds Tryd.pinned (.plain (OpenSpec.upto labelKeysSpec)) labelKeysUptoCard

/-- THE SECOND FORM's CARD OF 'switchboardlaw01.LabelBack'. -/
def labelBackUptoCard : Claim7 := { stood := { row := labelBackUptoRow, standIns := [], harness := (true, "382c3eeb3970e219aca2c0d6907d085293ea3fe4654efb64c12016ebb2f2794d"), looks := false }, kinds := [], alts := [], laidByText := true, laidKinds := [.data, .data, .data], laidTests := true, laidLooks := .later }
def LabelBackUptoCardSaid : Prop := Claim7.holds Tryd.pinned (.plain (OpenSpec.upto labelBackSpec)) labelBackUptoCard

/-- THE SECOND FORM's CARD OF 'switchboardlaw01.LabelColon'. -/
def labelColonUptoCard : Claim7 := { stood := { row := labelColonUptoRow, standIns := [], harness := (true, "382c3eeb3970e219aca2c0d6907d085293ea3fe4654efb64c12016ebb2f2794d"), looks := false }, kinds := [], alts := [], laidByText := true, laidKinds := [.data, .data, .data], laidTests := true, laidLooks := .later }
def LabelColonUptoCardSaid : Prop := Claim7.holds Tryd.pinned (.plain (OpenSpec.upto labelColonSpec)) labelColonUptoCard
end Rows
end Go.Proofs.YtpeohgmceadmeaaDoor
