/-
  DERIVED. GIVEN WITH THE SEED: THE CARDS: each row of YtpbgmgjnclhpmaaGreatDoorRows.lean that lists a variable, with what it lists TIED to the program's text (the seventh form; the later family's looks); each row that meets fmt, with fmt's text TOLD by the authors' own Lean function (tested against real Go, not proved from fmt's source: count such statements apart). THE CARD IS WHAT COUNTS. Prove the row's statement (the work); the ties are given (YtpbgmgjnclhpmaaGreatDoorTie.lean); close each card by the builder's one call (the guide's Derived/Test/ToyasCard.lean, 'card_holds'). Laid BY PROGRAM, IN A SANDBOX (cutbox-door.mjs). By AI agents, Wed Nov 11 2026. No macro, syntax, notation, axiom, sorry.
-/
import Derived.Test.YtpbgmgjnclhpmaaGreatDoorRows
import GoSem.ClaimSeven
namespace Go.Proofs.YtpbgmgjnclhpmaaGreatDoor
namespace Rows

/-- THE TIED CARD OF 'doormanlaw12.BanTells'. -/
def banTellsCard : Claim7 := { stood := { row := banTellsRow, standIns := [], harness := (true, "f120b496373168ae0c1cefb4844ae3bd5c352c120bab54f5ccc035018ad7adae"), looks := false }, kinds := [], alts := [], laidByText := true, laidKinds := [.data, .pinned], laidTests := true, laidLooks := .later }
def BanTellsCardSaid : Prop := Claim7.holds Tryz.pinned (.plain (OpenSpec.ofChange banTellsSpec)) banTellsCard

/-- THE SECOND FORM's CARD OF 'doormanlaw12.BanTells'. -/
def banTellsUptoCard : Claim7 := { stood := { row := banTellsUptoRow, standIns := [], harness := (true, "f120b496373168ae0c1cefb4844ae3bd5c352c120bab54f5ccc035018ad7adae"), looks := false }, kinds := [], alts := [], laidByText := true, laidKinds := [.data, .pinned], laidTests := true, laidLooks := .later }
def BanTellsUptoCardSaid : Prop := Claim7.holds Tryz.pinned (.plain (OpenSpec.upto banTellsSpec)) banTellsUptoCard
end Rows
end Go.Proofs.YtpbgmgjnclhpmaaGreatDoor
