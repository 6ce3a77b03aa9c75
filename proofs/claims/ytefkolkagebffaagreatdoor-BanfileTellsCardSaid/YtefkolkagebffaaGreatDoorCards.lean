/-
  DERIVED. GIVEN WITH THE SEED: THE CARDS: each row of YtefkolkagebffaaGreatDoorRows.lean that lists a variable, with what it lists TIED to the program's text (the seventh form; the later family's looks); each row that meets fmt, with fmt's text TOLD by the authors' own Lean function (tested against real Go, not proved from fmt's source: count such statements apart). THE CARD IS WHAT COUNTS. Prove the row's statement (the work); the ties are given (YtefkolkagebffaaGreatDoorTie.lean); close each card by the builder's one call (the guide's Derived/Test/ToyasCard.lean, 'card_holds'). Laid BY PROGRAM, IN A SANDBOX (cutbox-door.mjs). By AI agents, Wed Nov 11 2026. No macro, syntax, notation, axiom, sorry.
-/
import Derived.Test.YtefkolkagebffaaGreatDoorRows
import GoSem.ClaimSeven
namespace Go.Proofs.YtefkolkagebffaaGreatDoor
namespace Rows

/-- THE TIED CARD OF 'doormanlaw14.BanfileTells'. -/
def banfileTellsCard : Claim7 := { stood := { row := banfileTellsRow, standIns := [], harness := (true, "45f1e3ea3a84559a00f0cbd79b71f289d1e9184c742453c63661e5891e47c9f6"), looks := false }, kinds := [], alts := [], laidByText := true, laidKinds := [.data, .pinned], laidTests := true, laidLooks := .later }
def BanfileTellsCardSaid : Prop := Claim7.holds Tryz.pinned (.plain (OpenSpec.ofChange banfileTellsSpec)) banfileTellsCard

/-- THE TIED CARD OF 'doormanlaw14.BanfileBack'. -/
def banfileBackCard : Claim7 := { stood := { row := banfileBackRow, standIns := [], harness := (true, "45f1e3ea3a84559a00f0cbd79b71f289d1e9184c742453c63661e5891e47c9f6"), looks := false }, kinds := [], alts := [], laidByText := true, laidKinds := [.data, .pinned], laidTests := true, laidLooks := .later }
def BanfileBackCardSaid : Prop := Claim7.holds Tryz.pinned (.plain (OpenSpec.ofChange banfileBackSpec)) banfileBackCard

/-- THE SECOND FORM's CARD OF 'doormanlaw14.BanfileTells'. -/
def banfileTellsUptoCard : Claim7 := { stood := { row := banfileTellsUptoRow, standIns := [], harness := (true, "45f1e3ea3a84559a00f0cbd79b71f289d1e9184c742453c63661e5891e47c9f6"), looks := false }, kinds := [], alts := [], laidByText := true, laidKinds := [.data, .pinned], laidTests := true, laidLooks := .later }
def BanfileTellsUptoCardSaid : Prop := Claim7.holds Tryz.pinned (.plain (OpenSpec.upto banfileTellsSpec)) banfileTellsUptoCard

/-- THE SECOND FORM's CARD OF 'doormanlaw14.BanfileBack'. -/
def banfileBackUptoCard : Claim7 := { stood := { row := banfileBackUptoRow, standIns := [], harness := (true, "45f1e3ea3a84559a00f0cbd79b71f289d1e9184c742453c63661e5891e47c9f6"), looks := false }, kinds := [], alts := [], laidByText := true, laidKinds := [.data, .pinned], laidTests := true, laidLooks := .later }
def BanfileBackUptoCardSaid : Prop := Claim7.holds Tryz.pinned (.plain (OpenSpec.upto banfileBackSpec)) banfileBackUptoCard
end Rows
end Go.Proofs.YtefkolkagebffaaGreatDoor
