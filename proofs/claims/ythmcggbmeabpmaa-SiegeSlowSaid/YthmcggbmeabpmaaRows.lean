/-
  No cell of these rows narrows 'for every input' (looked for: loops, veiled, ifaces, maps, wideKeys, modest, calm, conditions, laid).
  DERIVED. THE GIVEN ROWS OF THIS SEAT. 3 by the template 'for every input the law returns true; each argument reads behind the call as it read before'; 0 by the template 'total and deterministic' (their statements: YthmcggbmeabpmaaTotals.lean).
  GIVEN WITH THE SEED: the statements are not yours to turn. If you find one false, say at which input.
  Laid BY PROGRAM, IN A SANDBOX (cutbox-rows.mjs): the forced cells as the released guide's own fill.sh prints them over the translation adc248edf097af3d… (all of the seat's roots in one cut). By AI agents, Wed Nov 11 2026. No macro, syntax, notation, axiom, sorry.
-/
import Derived.Test.YthmcggbmeabpmaaChecked
import GoSem.Claim
import GoSem.ClaimJoined
import GoSem.ClaimMapViews
import Derived.JoinedTies
import Derived.KernelRfl
namespace Go.Proofs.Ythmcggbmeabpmaa
/- THE CELL 'sum', in the pinned program and in every row, IS THE sha256 OF THE DUMP (.gsa) THAT YthmcggbmeabpmaaProg.lean LOADS. Nothing in Lean hashes anything: it is a label: what it is worth is what the hold of that sum in a sandbox is worth. -/
noncomputable def Try.pinned : Pinned := { name := "ythmcggbmeabpmaa", sum := "adc248edf097af3dc319143761cb34197d90637da5948ebb3707c75ae202cffd", checked := Try.checked }
namespace Rows
def none {H : Type} : Left H := { results := [], args := [] }

/-- 'doormanlaw22.SiegeTells': WHATEVER THE INPUT: true; the input reads as it did. -/
def siegeTellsSpec : ChangeSpec := { name := "siegeTells", fn := fun _ => fun
  | [d1, d2, d3] => { results := [.lit (.bool true)], args := [d1, d2, d3] }
  | _ => none }
def siegeTellsRow : OpenClaim := { program := "ythmcggbmeabpmaa", sum := "adc248edf097af3dc319143761cb34197d90637da5948ebb3707c75ae202cffd", func := "doorman/doormanlaw22.SiegeTells", spec := "siegeTells", unfollowed := true, recurses := true, plainKeys := false, apart := false }
def SiegeTellsSaid : Prop := siegeTellsRow.holds Try.pinned (OpenSpec.ofChange siegeTellsSpec)

/-- ITS FALSE NEIGHBOUR: 'it returns false'. Refute it at one input. -/
def siegeTellsWrong : ChangeSpec := { name := "siegeTells", fn := fun _ => fun
  | [d1, d2, d3] => { results := [.lit (.bool false)], args := [d1, d2, d3] }
  | _ => none }
def SiegeTellsWrongFalsely : Prop := siegeTellsRow.holds Try.pinned (OpenSpec.ofChange siegeTellsWrong)

/-- 'doormanlaw22.SiegeStays': WHATEVER THE INPUT: true; the input reads as it did. -/
def siegeStaysSpec : ChangeSpec := { name := "siegeStays", fn := fun _ => fun
  | [d1, d2, d3] => { results := [.lit (.bool true)], args := [d1, d2, d3] }
  | _ => none }
def siegeStaysRow : OpenClaim := { program := "ythmcggbmeabpmaa", sum := "adc248edf097af3dc319143761cb34197d90637da5948ebb3707c75ae202cffd", func := "doorman/doormanlaw22.SiegeStays", spec := "siegeStays", unfollowed := true, recurses := true, plainKeys := false, apart := false }
def SiegeStaysSaid : Prop := siegeStaysRow.holds Try.pinned (OpenSpec.ofChange siegeStaysSpec)

/-- ITS FALSE NEIGHBOUR: 'it returns false'. Refute it at one input. -/
def siegeStaysWrong : ChangeSpec := { name := "siegeStays", fn := fun _ => fun
  | [d1, d2, d3] => { results := [.lit (.bool false)], args := [d1, d2, d3] }
  | _ => none }
def SiegeStaysWrongFalsely : Prop := siegeStaysRow.holds Try.pinned (OpenSpec.ofChange siegeStaysWrong)

/-- 'doormanlaw22.SiegeSlow': WHATEVER THE INPUT: true; the input reads as it did. -/
def siegeSlowSpec : ChangeSpec := { name := "siegeSlow", fn := fun _ => fun
  | [d1, d2, d3] => { results := [.lit (.bool true)], args := [d1, d2, d3] }
  | _ => none }
def siegeSlowRow : OpenClaim := { program := "ythmcggbmeabpmaa", sum := "adc248edf097af3dc319143761cb34197d90637da5948ebb3707c75ae202cffd", func := "doorman/doormanlaw22.SiegeSlow", spec := "siegeSlow", unfollowed := true, recurses := true, plainKeys := false, apart := false }
def SiegeSlowSaid : Prop := siegeSlowRow.holds Try.pinned (OpenSpec.ofChange siegeSlowSpec)

/-- ITS FALSE NEIGHBOUR: 'it returns false'. Refute it at one input. -/
def siegeSlowWrong : ChangeSpec := { name := "siegeSlow", fn := fun _ => fun
  | [d1, d2, d3] => { results := [.lit (.bool false)], args := [d1, d2, d3] }
  | _ => none }
def SiegeSlowWrongFalsely : Prop := siegeSlowRow.holds Try.pinned (OpenSpec.ofChange siegeSlowWrong)

/- THE SECOND FORM. 'bulk': how many values and letters a reading holds, each counted each time it is reached (what is shared counts as often as it is met; a slice's spare places count too). A statement '..UptoSaid' is the law's where the arguments, and the package variables that the reading takes, are together of bulk at most 1048576: NARROWER than '..Said'. Prove '..Said' where nothing that the law and all that it calls make is longer than what came in: it says more and counts as full. Else prove '..UptoSaid'. A law counts once. -/
mutual
def uptoBulk {H : Type} : DataW H → Nat
  | .lit (.string bytes) => bytes.length + 1
  | .lit _ => 1
  | .nil => 1
  | .ptr d => uptoBulk d + 1
  | .slice elems spare => uptoBulkAll elems + uptoBulkAll spare + 1
  | .agg parts => uptoBulkAll parts + 1
  | .iface _ d => uptoBulk d + 1
  | .map entries => uptoBulkEntries entries + 1
  | .held _ => 1
def uptoBulkAll {H : Type} : List (DataW H) → Nat
  | [] => 0
  | d :: r => uptoBulk d + uptoBulkAll r
def uptoBulkEntries {H : Type} : List (Lit × DataW H) → Nat
  | [] => 0
  | x :: r => uptoBulkEntry x + uptoBulkEntries r
def uptoBulkEntry {H : Type} : Lit × DataW H → Nat
  | (.string bytes, d) => bytes.length + uptoBulk d + 1
  | (_, d) => uptoBulk d + 1
 end
def uptoSmall : (H : Type) → List (DataW H) → Bool := fun _ ds => decide (uptoBulkAll ds ≤ 1048576)
def OpenSpec.upto (s : _root_.Go.ChangeSpec) : _root_.Go.OpenSpec := { _root_.Go.OpenSpec.ofChange s with cond := some uptoSmall }

/-- 'doormanlaw22.SiegeTells', WHERE WHAT IT READS IS OF BULK AT MOST 1048576: true; the input reads as it did. -/
def siegeTellsUptoRow : OpenClaim := { program := "ythmcggbmeabpmaa", sum := "adc248edf097af3dc319143761cb34197d90637da5948ebb3707c75ae202cffd", func := "doorman/doormanlaw22.SiegeTells", spec := "siegeTells", unfollowed := true, recurses := true, plainKeys := false, apart := false, narrowed := true }
def SiegeTellsUptoSaid : Prop := siegeTellsUptoRow.holds Try.pinned (OpenSpec.upto siegeTellsSpec)

/-- 'doormanlaw22.SiegeStays', WHERE WHAT IT READS IS OF BULK AT MOST 1048576: true; the input reads as it did. -/
def siegeStaysUptoRow : OpenClaim := { program := "ythmcggbmeabpmaa", sum := "adc248edf097af3dc319143761cb34197d90637da5948ebb3707c75ae202cffd", func := "doorman/doormanlaw22.SiegeStays", spec := "siegeStays", unfollowed := true, recurses := true, plainKeys := false, apart := false, narrowed := true }
def SiegeStaysUptoSaid : Prop := siegeStaysUptoRow.holds Try.pinned (OpenSpec.upto siegeStaysSpec)

/-- 'doormanlaw22.SiegeSlow', WHERE WHAT IT READS IS OF BULK AT MOST 1048576: true; the input reads as it did. -/
def siegeSlowUptoRow : OpenClaim := { program := "ythmcggbmeabpmaa", sum := "adc248edf097af3dc319143761cb34197d90637da5948ebb3707c75ae202cffd", func := "doorman/doormanlaw22.SiegeSlow", spec := "siegeSlow", unfollowed := true, recurses := true, plainKeys := false, apart := false, narrowed := true }
def SiegeSlowUptoSaid : Prop := siegeSlowUptoRow.holds Try.pinned (OpenSpec.upto siegeSlowSpec)

end Rows
end Go.Proofs.Ythmcggbmeabpmaa
