/-
  No cell of these rows narrows 'for every input' (looked for: loops, veiled, ifaces, maps, wideKeys, modest, calm, conditions, laid).
  DERIVED. THE GIVEN ROWS OF THIS SEAT. 3 by the template 'for every input the law returns true; each argument reads behind the call as it read before'; 0 by the template 'total and deterministic' (their statements: YtlnbjkbbnhjkgaaTotals.lean).
  GIVEN WITH THE SEED: the statements are not yours to turn. If you find one false, say at which input.
  Laid BY PROGRAM, IN A SANDBOX (cutbox-rows.mjs): the forced cells as the released guide's own fill.sh prints them over the translation 412fe41fb8b39efd… (all of the seat's roots in one cut). By AI agents, Wed Nov 11 2026. No macro, syntax, notation, axiom, sorry.
-/
import Derived.Test.YtlnbjkbbnhjkgaaChecked
import GoSem.Claim
import GoSem.ClaimJoined
import GoSem.ClaimMapViews
import Derived.JoinedTies
import Derived.KernelRfl
namespace Go.Proofs.Ytlnbjkbbnhjkgaa
/- THE CELL 'sum', in the pinned program and in every row, IS THE sha256 OF THE DUMP (.gsa) THAT YtlnbjkbbnhjkgaaProg.lean LOADS. Nothing in Lean hashes anything: it is a label: what it is worth is what the hold of that sum in a sandbox is worth. -/
noncomputable def Try.pinned : Pinned := { name := "ytlnbjkbbnhjkgaa", sum := "412fe41fb8b39efd8253bd4d17e4edfe382994f45ba3d33f65711877cbeff329", checked := Try.checked }
namespace Rows
def none {H : Type} : Left H := { results := [], args := [] }

/-- 'doormanlaw19.ShieldTells': WHATEVER THE INPUT: true; the input reads as it did. -/
def shieldTellsSpec : ChangeSpec := { name := "shieldTells", fn := fun _ => fun
  | [d1, d2, d3] => { results := [.lit (.bool true)], args := [d1, d2, d3] }
  | _ => none }
def shieldTellsRow : OpenClaim := { program := "ytlnbjkbbnhjkgaa", sum := "412fe41fb8b39efd8253bd4d17e4edfe382994f45ba3d33f65711877cbeff329", func := "doorman/doormanlaw19.ShieldTells", spec := "shieldTells", unfollowed := true, recurses := true, apart := false }
def ShieldTellsSaid : Prop := shieldTellsRow.holds Try.pinned (OpenSpec.ofChange shieldTellsSpec)

/-- ITS FALSE NEIGHBOUR: 'it returns false'. Refute it at one input. -/
def shieldTellsWrong : ChangeSpec := { name := "shieldTells", fn := fun _ => fun
  | [d1, d2, d3] => { results := [.lit (.bool false)], args := [d1, d2, d3] }
  | _ => none }
def ShieldTellsWrongFalsely : Prop := shieldTellsRow.holds Try.pinned (OpenSpec.ofChange shieldTellsWrong)

/-- 'doormanlaw19.ShieldInside': WHATEVER THE INPUT: true; the input reads as it did. -/
def shieldInsideSpec : ChangeSpec := { name := "shieldInside", fn := fun _ => fun
  | [d1, d2, d3] => { results := [.lit (.bool true)], args := [d1, d2, d3] }
  | _ => none }
def shieldInsideRow : OpenClaim := { program := "ytlnbjkbbnhjkgaa", sum := "412fe41fb8b39efd8253bd4d17e4edfe382994f45ba3d33f65711877cbeff329", func := "doorman/doormanlaw19.ShieldInside", spec := "shieldInside", unfollowed := true, recurses := true, apart := false }
def ShieldInsideSaid : Prop := shieldInsideRow.holds Try.pinned (OpenSpec.ofChange shieldInsideSpec)

/-- ITS FALSE NEIGHBOUR: 'it returns false'. Refute it at one input. -/
def shieldInsideWrong : ChangeSpec := { name := "shieldInside", fn := fun _ => fun
  | [d1, d2, d3] => { results := [.lit (.bool false)], args := [d1, d2, d3] }
  | _ => none }
def ShieldInsideWrongFalsely : Prop := shieldInsideRow.holds Try.pinned (OpenSpec.ofChange shieldInsideWrong)

/-- 'doormanlaw19.ShieldCounts': WHATEVER THE INPUT: true; the input reads as it did. -/
def shieldCountsSpec : ChangeSpec := { name := "shieldCounts", fn := fun _ => fun
  | [d1, d2, d3] => { results := [.lit (.bool true)], args := [d1, d2, d3] }
  | _ => none }
def shieldCountsRow : OpenClaim := { program := "ytlnbjkbbnhjkgaa", sum := "412fe41fb8b39efd8253bd4d17e4edfe382994f45ba3d33f65711877cbeff329", func := "doorman/doormanlaw19.ShieldCounts", spec := "shieldCounts", unfollowed := true, recurses := true, apart := false }
def ShieldCountsSaid : Prop := shieldCountsRow.holds Try.pinned (OpenSpec.ofChange shieldCountsSpec)

/-- ITS FALSE NEIGHBOUR: 'it returns false'. Refute it at one input. -/
def shieldCountsWrong : ChangeSpec := { name := "shieldCounts", fn := fun _ => fun
  | [d1, d2, d3] => { results := [.lit (.bool false)], args := [d1, d2, d3] }
  | _ => none }
def ShieldCountsWrongFalsely : Prop := shieldCountsRow.holds Try.pinned (OpenSpec.ofChange shieldCountsWrong)

/- THE SECOND FORM. 'bulk': how many values and letters a reading holds, each counted each time it is reached (what is shared counts as often as it is met; a slice's spare places count too). A statement '..UptoSaid' is the law's where the arguments, and the package variables that the reading takes, are together of bulk at most 1048576: NARROWER than '..Said'. Prove '..Said' where nothing that the law and all that it calls make is longer than what came in: it says more and counts as full. Else prove '..UptoSaid'. A law counts once. -/
mutual
def uptoBulk {H : Type} : DataW H → Nat
  | .lit (.string bytes) => bytes.length + 1
  | .lit _ => 1
  | .nil => 1
  | .ptr d => uptoBulk d + 1
  | .slice elems spare => uptoBulkAll elems + uptoBulkAll spare + 1
  | .agg parts => uptoBulkAll parts + 1
  | .iface _ d => uptoBulk d + 1
  | .map entries => uptoBulkEntries entries + 1
  | .held _ => 1
def uptoBulkAll {H : Type} : List (DataW H) → Nat
  | [] => 0
  | d :: r => uptoBulk d + uptoBulkAll r
def uptoBulkEntries {H : Type} : List (Lit × DataW H) → Nat
  | [] => 0
  | x :: r => uptoBulkEntry x + uptoBulkEntries r
def uptoBulkEntry {H : Type} : Lit × DataW H → Nat
  | (.string bytes, d) => bytes.length + uptoBulk d + 1
  | (_, d) => uptoBulk d + 1
 end
def uptoSmall : (H : Type) → List (DataW H) → Bool := fun _ ds => decide (uptoBulkAll ds ≤ 1048576)
def OpenSpec.upto (s : _root_.Go.ChangeSpec) : _root_.Go.OpenSpec := { _root_.Go.OpenSpec.ofChange s with cond := some uptoSmall }

/-- 'doormanlaw19.ShieldTells', WHERE WHAT IT READS IS OF BULK AT MOST 1048576: true; the input reads as it did. -/
def shieldTellsUptoRow : OpenClaim := { program := "ytlnbjkbbnhjkgaa", sum := "412fe41fb8b39efd8253bd4d17e4edfe382994f45ba3d33f65711877cbeff329", func := "doorman/doormanlaw19.ShieldTells", spec := "shieldTells", unfollowed := true, recurses := true, apart := false, narrowed := true }
def ShieldTellsUptoSaid : Prop := shieldTellsUptoRow.holds Try.pinned (OpenSpec.upto shieldTellsSpec)

/-- 'doormanlaw19.ShieldInside', WHERE WHAT IT READS IS OF BULK AT MOST 1048576: true; the input reads as it did. -/
def shieldInsideUptoRow : OpenClaim := { program := "ytlnbjkbbnhjkgaa", sum := "412fe41fb8b39efd8253bd4d17e4edfe382994f45ba3d33f65711877cbeff329", func := "doorman/doormanlaw19.ShieldInside", spec := "shieldInside", unfollowed := true, recurses := true, apart := false, narrowed := true }
def ShieldInsideUptoSaid : Prop := shieldInsideUptoRow.holds Try.pinned (OpenSpec.upto shieldInsideSpec)

/-- 'doormanlaw19.ShieldCounts', WHERE WHAT IT READS IS OF BULK AT MOST 1048576: true; the input reads as it did. -/
def shieldCountsUptoRow : OpenClaim := { program := "ytlnbjkbbnhjkgaa", sum := "412fe41fb8b39efd8253bd4d17e4edfe382994f45ba3d33f65711877cbeff329", func := "doorman/doormanlaw19.ShieldCounts", spec := "shieldCounts", unfollowed := true, recurses := true, apart := false, narrowed := true }
def ShieldCountsUptoSaid : Prop := shieldCountsUptoRow.holds Try.pinned (OpenSpec.upto shieldCountsSpec)

end Rows
end Go.Proofs.Ytlnbjkbbnhjkgaa
