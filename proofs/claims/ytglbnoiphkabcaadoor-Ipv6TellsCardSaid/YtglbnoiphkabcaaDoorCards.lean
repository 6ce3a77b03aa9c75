/-
  DERIVED. GIVEN WITH THE SEED: THE CARDS: each row of YtglbnoiphkabcaaDoorRows.lean that lists a variable, with what it lists TIED to the program's text (the seventh form; the later family's looks); each row that meets fmt, with fmt's text TOLD by the authors' own Lean function (tested against real Go, not proved from fmt's source: count such statements apart). THE CARD IS WHAT COUNTS. Prove the row's statement (the work); the ties are given (YtglbnoiphkabcaaDoorTie.lean); close each card by the builder's one call (the guide's Derived/Test/ToyasCard.lean, 'card_holds'). Laid BY PROGRAM, IN A SANDBOX (cutbox-door.mjs). By AI agents, Wed Nov 11 2026. No macro, syntax, notation, axiom, sorry.
-/
import Derived.Test.YtglbnoiphkabcaaDoorRows
import GoSem.ClaimSeven
namespace Go.Proofs.YtglbnoiphkabcaaDoor
namespace Rows

/-- THE TIED CARD OF 'doormanlaw05.Ipv6Tells'. -/
def ipv6TellsCard : Claim7 := { stood := { row := ipv6TellsRow, standIns := [], harness := (true, "73200c69f3d0ed3224cf0d66063b8d3babeb6450c529ffb84f601050ee85ee88"), looks := false }, kinds := [], alts := [], laidByText := true, laidKinds := [.data, .pinned], laidTests := true, laidLooks := .later }
def Ipv6TellsCardSaid : Prop := Claim7.holds Tryd.pinned (.plain (OpenSpec.ofChange ipv6TellsSpec)) ipv6TellsCard

/-- THE TIED CARD OF 'doormanlaw05.Ipv6Back'. -/
def ipv6BackCard : Claim7 := { stood := { row := ipv6BackRow, standIns := [], harness := (true, "73200c69f3d0ed3224cf0d66063b8d3babeb6450c529ffb84f601050ee85ee88"), looks := false }, kinds := [], alts := [], laidByText := true, laidKinds := [.data, .pinned], laidTests := true, laidLooks := .later }
def Ipv6BackCardSaid : Prop := Claim7.holds Tryd.pinned (.plain (OpenSpec.ofChange ipv6BackSpec)) ipv6BackCard

/-- THE TIED CARD OF 'doormanlaw05.Ipv6Short'. -/
def ipv6ShortCard : Claim7 := { stood := { row := ipv6ShortRow, standIns := [], harness := (true, "73200c69f3d0ed3224cf0d66063b8d3babeb6450c529ffb84f601050ee85ee88"), looks := false }, kinds := [], alts := [], laidByText := true, laidKinds := [.data, .pinned], laidTests := true, laidLooks := .later }
def Ipv6ShortCardSaid : Prop := Claim7.holds Tryd.pinned (.plain (OpenSpec.ofChange ipv6ShortSpec)) ipv6ShortCard

/-- THE SECOND FORM's CARD OF 'doormanlaw05.Ipv6Tells'. -/
def ipv6TellsUptoCard : Claim7 := { stood := { row := ipv6TellsUptoRow, standIns := [], harness := (true, "73200c69f3d0ed3224cf0d66063b8d3babeb6450c529ffb84f601050ee85ee88"), looks := false }, kinds := [], alts := [], laidByText := true, laidKinds := [.data, .pinned], laidTests := true, laidLooks := .later }
def Ipv6TellsUptoCardSaid : Prop := Claim7.holds Tryd.pinned (.plain (OpenSpec.upto ipv6TellsSpec)) ipv6TellsUptoCard

/-- THE SECOND FORM's CARD OF 'doormanlaw05.Ipv6Back'. -/
def ipv6BackUptoCard : Claim7 := { stood := { row := ipv6BackUptoRow, standIns := [], harness := (true, "73200c69f3d0ed3224cf0d66063b8d3babeb6450c529ffb84f601050ee85ee88"), looks := false }, kinds := [], alts := [], laidByText := true, laidKinds := [.data, .pinned], laidTests := true, laidLooks := .later }
def Ipv6BackUptoCardSaid : Prop := Claim7.holds Tryd.pinned (.plain (OpenSpec.upto ipv6BackSpec)) ipv6BackUptoCard

/-- THE SECOND FORM's CARD OF 'doormanlaw05.Ipv6Short'. -/
def ipv6ShortUptoCard : Claim7 := { stood := { row := ipv6ShortUptoRow, standIns := [], harness := (true, "73200c69f3d0ed3224cf0d66063b8d3babeb6450c529ffb84f601050ee85ee88"), looks := false }, kinds := [], alts := [], laidByText := true, laidKinds := [.data, .pinned], laidTests := true, laidLooks := .later }
def Ipv6ShortUptoCardSaid : Prop := Claim7.holds Tryd.pinned (.plain (OpenSpec.upto ipv6ShortSpec)) ipv6ShortUptoCard
end Rows
end Go.Proofs.YtglbnoiphkabcaaDoor
