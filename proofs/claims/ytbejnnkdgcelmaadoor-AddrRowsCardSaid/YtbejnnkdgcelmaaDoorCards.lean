/-
  DERIVED. GIVEN WITH THE SEED: THE CARDS: each row of YtbejnnkdgcelmaaDoorRows.lean that lists a variable, with what it lists TIED to the program's text (the seventh form; the later family's looks); each row that meets fmt, with fmt's text TOLD by the authors' own Lean function (tested against real Go, not proved from fmt's source: count such statements apart). THE CARD IS WHAT COUNTS. Prove the row's statement (the work); the ties are given (YtbejnnkdgcelmaaDoorTie.lean); close each card by the builder's one call (the guide's Derived/Test/ToyasCard.lean, 'card_holds'). Laid BY PROGRAM, IN A SANDBOX (cutbox-door.mjs). By AI agents, Wed Nov 11 2026. No macro, syntax, notation, axiom, sorry.
-/
import Derived.Test.YtbejnnkdgcelmaaDoorRows
import GoSem.ClaimSeven
namespace Go.Proofs.YtbejnnkdgcelmaaDoor
namespace Rows

/-- THE TIED CARD OF 'switchboardlaw02.AddrRows'. -/
def addrRowsCard : Claim7 := { stood := { row := addrRowsRow, standIns := [], harness := (true, "157360aed87fee39f58bccf6defeaeec6806f34c2669006bc4eb82347ed252dc"), looks := false }, kinds := [], alts := [], laidByText := true, laidKinds := [.data, .data, .data, .data, .pinned], laidTests := true, laidLooks := .later }
def AddrRowsCardSaid : Prop := Claim7.holds Tryd.pinned (.plain (OpenSpec.ofChange addrRowsSpec)) addrRowsCard

/-- THE TIED CARD OF 'switchboardlaw02.AddrBack'. -/
def addrBackCard : Claim7 := { stood := { row := addrBackRow, standIns := [], harness := (true, "157360aed87fee39f58bccf6defeaeec6806f34c2669006bc4eb82347ed252dc"), looks := false }, kinds := [], alts := [], laidByText := true, laidKinds := [.data, .data, .data, .data, .pinned], laidTests := true, laidLooks := .later }
def AddrBackCardSaid : Prop := Claim7.holds Tryd.pinned (.plain (OpenSpec.ofChange addrBackSpec)) addrBackCard

/-- THE TIED CARD OF 'switchboardlaw02.AddrFamilies'. -/
def addrFamiliesCard : Claim7 := { stood := { row := addrFamiliesRow, standIns := [], harness := (true, "157360aed87fee39f58bccf6defeaeec6806f34c2669006bc4eb82347ed252dc"), looks := false }, kinds := [], alts := [], laidByText := true, laidKinds := [.data, .data, .data, .data, .pinned], laidTests := true, laidLooks := .later }
def AddrFamiliesCardSaid : Prop := Claim7.holds Tryd.pinned (.plain (OpenSpec.ofChange addrFamiliesSpec)) addrFamiliesCard

/-- THE TIED CARD OF 'switchboardlaw02.AddrDigits'. -/
def addrDigitsCard : Claim7 := { stood := { row := addrDigitsRow, standIns := [], harness := (true, "157360aed87fee39f58bccf6defeaeec6806f34c2669006bc4eb82347ed252dc"), looks := false }, kinds := [], alts := [], laidByText := true, laidKinds := [.data, .data, .data, .data, .pinned], laidTests := true, laidLooks := .later }
def AddrDigitsCardSaid : Prop := Claim7.holds Tryd.pinned (.plain (OpenSpec.ofChange addrDigitsSpec)) addrDigitsCard

/-- THE SECOND FORM's CARD OF 'switchboardlaw02.AddrRows'. -/
def addrRowsUptoCard : Claim7 := { stood := { row := addrRowsUptoRow, standIns := [], harness := (true, "157360aed87fee39f58bccf6defeaeec6806f34c2669006bc4eb82347ed252dc"), looks := false }, kinds := [], alts := [], laidByText := true, laidKinds := [.data, .data, .data, .data, .pinned], laidTests := true, laidLooks := .later }
def AddrRowsUptoCardSaid : Prop := Claim7.holds Tryd.pinned (.plain (OpenSpec.upto addrRowsSpec)) addrRowsUptoCard

/-- THE SECOND FORM's CARD OF 'switchboardlaw02.AddrBack'. -/
def addrBackUptoCard : Claim7 := { stood := { row := addrBackUptoRow, standIns := [], harness := (true, "157360aed87fee39f58bccf6defeaeec6806f34c2669006bc4eb82347ed252dc"), looks := false }, kinds := [], alts := [], laidByText := true, laidKinds := [.data, .data, .data, .data, .pinned], laidTests := true, laidLooks := .later }
def AddrBackUptoCardSaid : Prop := Claim7.holds Tryd.pinned (.plain (OpenSpec.upto addrBackSpec)) addrBackUptoCard

/-- THE SECOND FORM's CARD OF 'switchboardlaw02.AddrFamilies'. -/
def addrFamiliesUptoCard : Claim7 := { stood := { row := addrFamiliesUptoRow, standIns := [], harness := (true, "157360aed87fee39f58bccf6defeaeec6806f34c2669006bc4eb82347ed252dc"), looks := false }, kinds := [], alts := [], laidByText := true, laidKinds := [.data, .data, .data, .data, .pinned], laidTests := true, laidLooks := .later }
def AddrFamiliesUptoCardSaid : Prop := Claim7.holds Tryd.pinned (.plain (OpenSpec.upto addrFamiliesSpec)) addrFamiliesUptoCard

/-- THE SECOND FORM's CARD OF 'switchboardlaw02.AddrDigits'. -/
def addrDigitsUptoCard : Claim7 := { stood := { row := addrDigitsUptoRow, standIns := [], harness := (true, "157360aed87fee39f58bccf6defeaeec6806f34c2669006bc4eb82347ed252dc"), looks := false }, kinds := [], alts := [], laidByText := true, laidKinds := [.data, .data, .data, .data, .pinned], laidTests := true, laidLooks := .later }
def AddrDigitsUptoCardSaid : Prop := Claim7.holds Tryd.pinned (.plain (OpenSpec.upto addrDigitsSpec)) addrDigitsUptoCard
end Rows
end Go.Proofs.YtbejnnkdgcelmaaDoor
