/-
  No cell of these rows narrows 'for every input' (looked for: loops, veiled, ifaces, maps, wideKeys, modest, calm, conditions, laid).
  DERIVED. THE GIVEN ROWS OF THIS SEAT. 2 by the template 'for every input the law returns true; each argument reads behind the call as it read before'; 0 by the template 'total and deterministic' (their statements: YtmdinaanajdmoaaTotals.lean).
  GIVEN WITH THE SEED: the statements are not yours to turn. If you find one false, say at which input.
  Laid BY PROGRAM, IN A SANDBOX (cutbox-rows.mjs): the forced cells as the released guide's own fill.sh prints them over the translation 36a2b8fb5110c9eb… (all of the seat's roots in one cut). By AI agents, Wed Nov 11 2026. No macro, syntax, notation, axiom, sorry.
-/
import Derived.Test.YtmdinaanajdmoaaChecked
import GoSem.Claim
import GoSem.ClaimJoined
import GoSem.ClaimMapViews
import Derived.JoinedTies
import Derived.KernelRfl
namespace Go.Proofs.Ytmdinaanajdmoaa
/- THE CELL 'sum', in the pinned program and in every row, IS THE sha256 OF THE DUMP (.gsa) THAT YtmdinaanajdmoaaProg.lean LOADS. Nothing in Lean hashes anything: it is a label: what it is worth is what the hold of that sum in a sandbox is worth. -/
noncomputable def Try.pinned : Pinned := { name := "ytmdinaanajdmoaa", sum := "36a2b8fb5110c9ebd3056900c729f54d64cedef227dd90e1dd21e007e586ea0f", checked := Try.checked }
namespace Rows
def none {H : Type} : Left H := { results := [], args := [] }

/-- 'doormanlaw15.HalfTells': WHATEVER THE INPUT: true; the input reads as it did. -/
def halfTellsSpec : ChangeSpec := { name := "halfTells", fn := fun _ => fun
  | [d1, d2, d3] => { results := [.lit (.bool true)], args := [d1, d2, d3] }
  | _ => none }
def halfTellsRow : OpenClaim := { program := "ytmdinaanajdmoaa", sum := "36a2b8fb5110c9ebd3056900c729f54d64cedef227dd90e1dd21e007e586ea0f", func := "doorman/doormanlaw15.HalfTells", spec := "halfTells", apart := false }
def HalfTellsSaid : Prop := halfTellsRow.holds Try.pinned (OpenSpec.ofChange halfTellsSpec)

/-- ITS FALSE NEIGHBOUR: 'it returns false'. Refute it at one input. -/
def halfTellsWrong : ChangeSpec := { name := "halfTells", fn := fun _ => fun
  | [d1, d2, d3] => { results := [.lit (.bool false)], args := [d1, d2, d3] }
  | _ => none }
def HalfTellsWrongFalsely : Prop := halfTellsRow.holds Try.pinned (OpenSpec.ofChange halfTellsWrong)

/-- 'doormanlaw15.HalfTwice': WHATEVER THE INPUT: true; the input reads as it did. -/
def halfTwiceSpec : ChangeSpec := { name := "halfTwice", fn := fun _ => fun
  | [d1, d2, d3] => { results := [.lit (.bool true)], args := [d1, d2, d3] }
  | _ => none }
def halfTwiceRow : OpenClaim := { program := "ytmdinaanajdmoaa", sum := "36a2b8fb5110c9ebd3056900c729f54d64cedef227dd90e1dd21e007e586ea0f", func := "doorman/doormanlaw15.HalfTwice", spec := "halfTwice", apart := false }
def HalfTwiceSaid : Prop := halfTwiceRow.holds Try.pinned (OpenSpec.ofChange halfTwiceSpec)

/-- ITS FALSE NEIGHBOUR: 'it returns false'. Refute it at one input. -/
def halfTwiceWrong : ChangeSpec := { name := "halfTwice", fn := fun _ => fun
  | [d1, d2, d3] => { results := [.lit (.bool false)], args := [d1, d2, d3] }
  | _ => none }
def HalfTwiceWrongFalsely : Prop := halfTwiceRow.holds Try.pinned (OpenSpec.ofChange halfTwiceWrong)

/- THE SECOND FORM. 'bulk': how many values and letters a reading holds, each counted each time it is reached (what is shared counts as often as it is met; a slice's spare places count too). A statement '..UptoSaid' is the law's where the arguments, and the package variables that the reading takes, are together of bulk at most 1048576: NARROWER than '..Said'. Prove '..Said' where nothing that the law and all that it calls make is longer than what came in: it says more and counts as full. Else prove '..UptoSaid'. A law counts once. -/
mutual
def uptoBulk {H : Type} : DataW H → Nat
  | .lit (.string bytes) => bytes.length + 1
  | .lit _ => 1
  | .nil => 1
  | .ptr d => uptoBulk d + 1
  | .slice elems spare => uptoBulkAll elems + uptoBulkAll spare + 1
  | .agg parts => uptoBulkAll parts + 1
  | .iface _ d => uptoBulk d + 1
  | .map entries => uptoBulkEntries entries + 1
  | .held _ => 1
def uptoBulkAll {H : Type} : List (DataW H) → Nat
  | [] => 0
  | d :: r => uptoBulk d + uptoBulkAll r
def uptoBulkEntries {H : Type} : List (Lit × DataW H) → Nat
  | [] => 0
  | x :: r => uptoBulkEntry x + uptoBulkEntries r
def uptoBulkEntry {H : Type} : Lit × DataW H → Nat
  | (.string bytes, d) => bytes.length + uptoBulk d + 1
  | (_, d) => uptoBulk d + 1
 end
def uptoSmall : (H : Type) → List (DataW H) → Bool := fun _ ds => decide (uptoBulkAll ds ≤ 1048576)
def OpenSpec.upto (s : _root_.Go.ChangeSpec) : _root_.Go.OpenSpec := { _root_.Go.OpenSpec.ofChange s with cond := some uptoSmall }

/-- 'doormanlaw15.HalfTells', WHERE WHAT IT READS IS OF BULK AT MOST 1048576: true; the input reads as it did. -/
def halfTellsUptoRow : OpenClaim := { program := "ytmdinaanajdmoaa", sum := "36a2b8fb5110c9ebd3056900c729f54d64cedef227dd90e1dd21e007e586ea0f", func := "doorman/doormanlaw15.HalfTells", spec := "halfTells", apart := false, narrowed := true }
def HalfTellsUptoSaid : Prop := halfTellsUptoRow.holds Try.pinned (OpenSpec.upto halfTellsSpec)

/-- 'doormanlaw15.HalfTwice', WHERE WHAT IT READS IS OF BULK AT MOST 1048576: true; the input reads as it did. -/
def halfTwiceUptoRow : OpenClaim := { program := "ytmdinaanajdmoaa", sum := "36a2b8fb5110c9ebd3056900c729f54d64cedef227dd90e1dd21e007e586ea0f", func := "doorman/doormanlaw15.HalfTwice", spec := "halfTwice", apart := false, narrowed := true }
def HalfTwiceUptoSaid : Prop := halfTwiceUptoRow.holds Try.pinned (OpenSpec.upto halfTwiceSpec)

end Rows
end Go.Proofs.Ytmdinaanajdmoaa
