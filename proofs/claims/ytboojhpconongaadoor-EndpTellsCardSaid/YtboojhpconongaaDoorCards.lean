/-
  DERIVED. GIVEN WITH THE SEED: THE CARDS: each row of YtboojhpconongaaDoorRows.lean that lists a variable, with what it lists TIED to the program's text (the seventh form; the later family's looks); each row that meets fmt, with fmt's text TOLD by the authors' own Lean function (tested against real Go, not proved from fmt's source: count such statements apart). THE CARD IS WHAT COUNTS. Prove the row's statement (the work); the ties are given (YtboojhpconongaaDoorTie.lean); close each card by the builder's one call (the guide's Derived/Test/ToyasCard.lean, 'card_holds'). Laid BY PROGRAM, IN A SANDBOX (cutbox-door.mjs). By AI agents, Wed Nov 11 2026. No macro, syntax, notation, axiom, sorry.
-/
import Derived.Test.YtboojhpconongaaDoorRows
import GoSem.ClaimSeven
namespace Go.Proofs.YtboojhpconongaaDoor
namespace Rows

/-- THE TIED CARD OF 'doormanlaw09.EndpTells'. -/
def endpTellsCard : Claim7 := { stood := { row := endpTellsRow, standIns := [], harness := (true, "9513d3a7c525f27c370c663460c260b2f29298f11696f98c590784a788d85c2c"), looks := false }, kinds := [], alts := [], laidByText := true, laidKinds := [.data, .pinned], laidTests := true, laidLooks := .later }
def EndpTellsCardSaid : Prop := Claim7.holds Tryd.pinned (.plain (OpenSpec.ofChange endpTellsSpec)) endpTellsCard

/-- THE TIED CARD OF 'doormanlaw09.EndpBack'. -/
def endpBackCard : Claim7 := { stood := { row := endpBackRow, standIns := [], harness := (true, "9513d3a7c525f27c370c663460c260b2f29298f11696f98c590784a788d85c2c"), looks := false }, kinds := [], alts := [], laidByText := true, laidKinds := [.data, .pinned], laidTests := true, laidLooks := .later }
def EndpBackCardSaid : Prop := Claim7.holds Tryd.pinned (.plain (OpenSpec.ofChange endpBackSpec)) endpBackCard

/-- THE TIED CARD OF 'doormanlaw09.EndpOrder'. -/
def endpOrderCard : Claim7 := { stood := { row := endpOrderRow, standIns := [], harness := (true, "9513d3a7c525f27c370c663460c260b2f29298f11696f98c590784a788d85c2c"), looks := false }, kinds := [], alts := [], laidByText := true, laidKinds := [.data, .pinned], laidTests := true, laidLooks := .later }
def EndpOrderCardSaid : Prop := Claim7.holds Tryd.pinned (.plain (OpenSpec.ofChange endpOrderSpec)) endpOrderCard

/-- THE SECOND FORM's CARD OF 'doormanlaw09.EndpTells'. -/
def endpTellsUptoCard : Claim7 := { stood := { row := endpTellsUptoRow, standIns := [], harness := (true, "9513d3a7c525f27c370c663460c260b2f29298f11696f98c590784a788d85c2c"), looks := false }, kinds := [], alts := [], laidByText := true, laidKinds := [.data, .pinned], laidTests := true, laidLooks := .later }
def EndpTellsUptoCardSaid : Prop := Claim7.holds Tryd.pinned (.plain (OpenSpec.upto endpTellsSpec)) endpTellsUptoCard

/-- THE SECOND FORM's CARD OF 'doormanlaw09.EndpBack'. -/
def endpBackUptoCard : Claim7 := { stood := { row := endpBackUptoRow, standIns := [], harness := (true, "9513d3a7c525f27c370c663460c260b2f29298f11696f98c590784a788d85c2c"), looks := false }, kinds := [], alts := [], laidByText := true, laidKinds := [.data, .pinned], laidTests := true, laidLooks := .later }
def EndpBackUptoCardSaid : Prop := Claim7.holds Tryd.pinned (.plain (OpenSpec.upto endpBackSpec)) endpBackUptoCard

/-- THE SECOND FORM's CARD OF 'doormanlaw09.EndpOrder'. -/
def endpOrderUptoCard : Claim7 := { stood := { row := endpOrderUptoRow, standIns := [], harness := (true, "9513d3a7c525f27c370c663460c260b2f29298f11696f98c590784a788d85c2c"), looks := false }, kinds := [], alts := [], laidByText := true, laidKinds := [.data, .pinned], laidTests := true, laidLooks := .later }
def EndpOrderUptoCardSaid : Prop := Claim7.holds Tryd.pinned (.plain (OpenSpec.upto endpOrderSpec)) endpOrderUptoCard
end Rows
end Go.Proofs.YtboojhpconongaaDoor
