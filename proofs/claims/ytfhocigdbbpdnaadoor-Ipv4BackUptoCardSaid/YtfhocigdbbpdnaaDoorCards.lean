/-
  DERIVED. GIVEN WITH THE SEED: THE CARDS: each row of YtfhocigdbbpdnaaDoorRows.lean that lists a variable, with what it lists TIED to the program's text (the seventh form; the later family's looks); each row that meets fmt, with fmt's text TOLD by the authors' own Lean function (tested against real Go, not proved from fmt's source: count such statements apart). THE CARD IS WHAT COUNTS. Prove the row's statement (the work); the ties are given (YtfhocigdbbpdnaaDoorTie.lean); close each card by the builder's one call (the guide's Derived/Test/ToyasCard.lean, 'card_holds'). Laid BY PROGRAM, IN A SANDBOX (cutbox-door.mjs). By AI agents, Wed Nov 11 2026. No macro, syntax, notation, axiom, sorry.
-/
import Derived.Test.YtfhocigdbbpdnaaDoorRows
import GoSem.ClaimSeven
namespace Go.Proofs.YtfhocigdbbpdnaaDoor
namespace Rows

/-- THE TIED CARD OF 'doormanlaw04.Ipv4Tells'. -/
def ipv4TellsCard : Claim7 := { stood := { row := ipv4TellsRow, standIns := [], harness := (true, "758d84fbfd463e325eb711d1a700f8468bc7c5405badb469c531383d21018541"), looks := false }, kinds := [], alts := [], laidByText := true, laidKinds := [.data, .pinned], laidTests := true, laidLooks := .later }
def Ipv4TellsCardSaid : Prop := Claim7.holds Tryd.pinned (.plain (OpenSpec.ofChange ipv4TellsSpec)) ipv4TellsCard

/-- THE TIED CARD OF 'doormanlaw04.Ipv4Back'. -/
def ipv4BackCard : Claim7 := { stood := { row := ipv4BackRow, standIns := [], harness := (true, "758d84fbfd463e325eb711d1a700f8468bc7c5405badb469c531383d21018541"), looks := false }, kinds := [], alts := [], laidByText := true, laidKinds := [.data, .pinned], laidTests := true, laidLooks := .later }
def Ipv4BackCardSaid : Prop := Claim7.holds Tryd.pinned (.plain (OpenSpec.ofChange ipv4BackSpec)) ipv4BackCard

/-- THE SECOND FORM's CARD OF 'doormanlaw04.Ipv4Tells'. -/
def ipv4TellsUptoCard : Claim7 := { stood := { row := ipv4TellsUptoRow, standIns := [], harness := (true, "758d84fbfd463e325eb711d1a700f8468bc7c5405badb469c531383d21018541"), looks := false }, kinds := [], alts := [], laidByText := true, laidKinds := [.data, .pinned], laidTests := true, laidLooks := .later }
def Ipv4TellsUptoCardSaid : Prop := Claim7.holds Tryd.pinned (.plain (OpenSpec.upto ipv4TellsSpec)) ipv4TellsUptoCard

/-- THE SECOND FORM's CARD OF 'doormanlaw04.Ipv4Back'. -/
def ipv4BackUptoCard : Claim7 := { stood := { row := ipv4BackUptoRow, standIns := [], harness := (true, "758d84fbfd463e325eb711d1a700f8468bc7c5405badb469c531383d21018541"), looks := false }, kinds := [], alts := [], laidByText := true, laidKinds := [.data, .pinned], laidTests := true, laidLooks := .later }
def Ipv4BackUptoCardSaid : Prop := Claim7.holds Tryd.pinned (.plain (OpenSpec.upto ipv4BackSpec)) ipv4BackUptoCard
end Rows
end Go.Proofs.YtfhocigdbbpdnaaDoor
