/-
  DERIVED. GIVEN WITH THE SEED: THE CARDS: each row of YtpbgmgjnclhpmaaDoorRows.lean that lists a variable, with what it lists TIED to the program's text (the seventh form; the later family's looks); each row that meets fmt, with fmt's text TOLD by the authors' own Lean function (tested against real Go, not proved from fmt's source: count such statements apart). THE CARD IS WHAT COUNTS. Prove the row's statement (the work); the ties are given (YtpbgmgjnclhpmaaDoorTie.lean); close each card by the builder's one call (the guide's Derived/Test/ToyasCard.lean, 'card_holds'). Laid BY PROGRAM, IN A SANDBOX (cutbox-door.mjs). By AI agents, Wed Nov 11 2026. No macro, syntax, notation, axiom, sorry.
-/
import Derived.Test.YtpbgmgjnclhpmaaDoorRows
import GoSem.ClaimSeven
namespace Go.Proofs.YtpbgmgjnclhpmaaDoor
namespace Rows

/-- THE TIED CARD OF 'doormanlaw12.BanBack'. -/
def banBackCard : Claim7 := { stood := { row := banBackRow, standIns := [], harness := (true, "7e9af68dea836573a4deb0362efa762b1a2a96af9d6185f78488372b20796d62"), looks := false }, kinds := [], alts := [], laidByText := true, laidKinds := [.data, .pinned], laidTests := true, laidLooks := .later }
def BanBackCardSaid : Prop := Claim7.holds Tryd.pinned (.plain (OpenSpec.ofChange banBackSpec)) banBackCard

/-- THE SECOND FORM's CARD OF 'doormanlaw12.BanBack'. -/
def banBackUptoCard : Claim7 := { stood := { row := banBackUptoRow, standIns := [], harness := (true, "7e9af68dea836573a4deb0362efa762b1a2a96af9d6185f78488372b20796d62"), looks := false }, kinds := [], alts := [], laidByText := true, laidKinds := [.data, .pinned], laidTests := true, laidLooks := .later }
def BanBackUptoCardSaid : Prop := Claim7.holds Tryd.pinned (.plain (OpenSpec.upto banBackSpec)) banBackUptoCard
end Rows
end Go.Proofs.YtpbgmgjnclhpmaaDoor
