/-
  DERIVED. GIVEN WITH THE SEED: THE CARDS: each row of YtciohjgcndgiaaaGreatDoorRows.lean that lists a variable, with what it lists TIED to the program's text (the seventh form; the later family's looks); each row that meets fmt, with fmt's text TOLD by the authors' own Lean function (tested against real Go, not proved from fmt's source: count such statements apart). THE CARD IS WHAT COUNTS. Prove the row's statement (the work); the ties are given (YtciohjgcndgiaaaGreatDoorTie.lean); close each card by the builder's one call (the guide's Derived/Test/ToyasCard.lean, 'card_holds'). Laid BY PROGRAM, IN A SANDBOX (cutbox-door.mjs). By AI agents, Wed Nov 11 2026. No macro, syntax, notation, axiom, sorry.
-/
import Derived.Test.YtciohjgcndgiaaaGreatDoorRows
import GoSem.ClaimSeven
namespace Go.Proofs.YtciohjgcndgiaaaGreatDoor
namespace Rows

/-- THE TIED CARD OF 'switchboardlaw10.WorldAnswers'. -/
def worldAnswersCard : Claim7 := { stood := { row := worldAnswersRow, standIns := [], harness := (true, "c3d1091384e6f8ee37d52df8d149460be7c543f74549ffdf8649a2e43244a42e"), looks := true }, kinds := [], alts := [], laidByText := true, laidKinds := [.data, .data, .data], laidTests := true, laidLooks := .later }
def WorldAnswersCardSaid : Prop := Claim7.holds Tryz.pinned (.plain (OpenSpec.ofChange worldAnswersSpec)) worldAnswersCard

/-- THE SECOND FORM's CARD OF 'switchboardlaw10.WorldAnswers'. -/
def worldAnswersUptoCard : Claim7 := { stood := { row := worldAnswersUptoRow, standIns := [], harness := (true, "c3d1091384e6f8ee37d52df8d149460be7c543f74549ffdf8649a2e43244a42e"), looks := true }, kinds := [], alts := [], laidByText := true, laidKinds := [.data, .data, .data], laidTests := true, laidLooks := .later }
def WorldAnswersUptoCardSaid : Prop := Claim7.holds Tryz.pinned (.plain (OpenSpec.upto worldAnswersSpec)) worldAnswersUptoCard
end Rows
end Go.Proofs.YtciohjgcndgiaaaGreatDoor
