/-
  No cell of these rows narrows 'for every input' (looked for: loops, veiled, ifaces, maps, wideKeys, modest, calm, conditions, laid).
  DERIVED. THE GIVEN ROWS OF THIS SEAT. 3 by the template 'for every input the law returns true; each argument reads behind the call as it read before'; 0 by the template 'total and deterministic' (their statements: YtklmlgoeiaigkaaTotals.lean).
  GIVEN WITH THE SEED: the statements are not yours to turn. If you find one false, say at which input.
  Laid BY PROGRAM, IN A SANDBOX (cutbox-rows.mjs): the forced cells as the released guide's own fill.sh prints them over the translation 3ae9b1f75a91dce4… (all of the seat's roots in one cut). By AI agents, Wed Nov 11 2026. No macro, syntax, notation, axiom, sorry.
-/
import Derived.Test.YtklmlgoeiaigkaaChecked
import GoSem.Claim
import GoSem.ClaimJoined
import GoSem.ClaimMapViews
import Derived.JoinedTies
import Derived.KernelRfl
namespace Go.Proofs.Ytklmlgoeiaigkaa
/- THE CELL 'sum', in the pinned program and in every row, IS THE sha256 OF THE DUMP (.gsa) THAT YtklmlgoeiaigkaaProg.lean LOADS. Nothing in Lean hashes anything: it is a label: what it is worth is what the hold of that sum in a sandbox is worth. -/
noncomputable def Try.pinned : Pinned := { name := "ytklmlgoeiaigkaa", sum := "3ae9b1f75a91dce47d5e795a0ccb8cab87cb760725b2e1c3100f5d2b00f829a0", checked := Try.checked }
namespace Rows
def none {H : Type} : Left H := { results := [], args := [] }

/-- 'doormanlaw21.EvictTells': WHATEVER THE INPUT: true; the input reads as it did. -/
def evictTellsSpec : ChangeSpec := { name := "evictTells", fn := fun _ => fun
  | [d1, d2, d3] => { results := [.lit (.bool true)], args := [d1, d2, d3] }
  | _ => none }
def evictTellsRow : OpenClaim := { program := "ytklmlgoeiaigkaa", sum := "3ae9b1f75a91dce47d5e795a0ccb8cab87cb760725b2e1c3100f5d2b00f829a0", func := "doorman/doormanlaw21.EvictTells", spec := "evictTells", unfollowed := true, recurses := true, plainKeys := false, apart := false }
def EvictTellsSaid : Prop := evictTellsRow.holds Try.pinned (OpenSpec.ofChange evictTellsSpec)

/-- ITS FALSE NEIGHBOUR: 'it returns false'. Refute it at one input. -/
def evictTellsWrong : ChangeSpec := { name := "evictTells", fn := fun _ => fun
  | [d1, d2, d3] => { results := [.lit (.bool false)], args := [d1, d2, d3] }
  | _ => none }
def EvictTellsWrongFalsely : Prop := evictTellsRow.holds Try.pinned (OpenSpec.ofChange evictTellsWrong)

/-- 'doormanlaw21.EvictNever': WHATEVER THE INPUT: true; the input reads as it did. -/
def evictNeverSpec : ChangeSpec := { name := "evictNever", fn := fun _ => fun
  | [d1, d2, d3] => { results := [.lit (.bool true)], args := [d1, d2, d3] }
  | _ => none }
def evictNeverRow : OpenClaim := { program := "ytklmlgoeiaigkaa", sum := "3ae9b1f75a91dce47d5e795a0ccb8cab87cb760725b2e1c3100f5d2b00f829a0", func := "doorman/doormanlaw21.EvictNever", spec := "evictNever", unfollowed := true, recurses := true, plainKeys := false, apart := false }
def EvictNeverSaid : Prop := evictNeverRow.holds Try.pinned (OpenSpec.ofChange evictNeverSpec)

/-- ITS FALSE NEIGHBOUR: 'it returns false'. Refute it at one input. -/
def evictNeverWrong : ChangeSpec := { name := "evictNever", fn := fun _ => fun
  | [d1, d2, d3] => { results := [.lit (.bool false)], args := [d1, d2, d3] }
  | _ => none }
def EvictNeverWrongFalsely : Prop := evictNeverRow.holds Try.pinned (OpenSpec.ofChange evictNeverWrong)

/-- 'doormanlaw21.EvictTurned': WHATEVER THE INPUT: true; the input reads as it did. -/
def evictTurnedSpec : ChangeSpec := { name := "evictTurned", fn := fun _ => fun
  | [d1, d2, d3] => { results := [.lit (.bool true)], args := [d1, d2, d3] }
  | _ => none }
def evictTurnedRow : OpenClaim := { program := "ytklmlgoeiaigkaa", sum := "3ae9b1f75a91dce47d5e795a0ccb8cab87cb760725b2e1c3100f5d2b00f829a0", func := "doorman/doormanlaw21.EvictTurned", spec := "evictTurned", unfollowed := true, recurses := true, plainKeys := false, apart := false }
def EvictTurnedSaid : Prop := evictTurnedRow.holds Try.pinned (OpenSpec.ofChange evictTurnedSpec)

/-- ITS FALSE NEIGHBOUR: 'it returns false'. Refute it at one input. -/
def evictTurnedWrong : ChangeSpec := { name := "evictTurned", fn := fun _ => fun
  | [d1, d2, d3] => { results := [.lit (.bool false)], args := [d1, d2, d3] }
  | _ => none }
def EvictTurnedWrongFalsely : Prop := evictTurnedRow.holds Try.pinned (OpenSpec.ofChange evictTurnedWrong)

/- THE SECOND FORM. 'bulk': how many values and letters a reading holds, each counted each time it is reached (what is shared counts as often as it is met; a slice's spare places count too). A statement '..UptoSaid' is the law's where the arguments, and the package variables that the reading takes, are together of bulk at most 1048576: NARROWER than '..Said'. Prove '..Said' where nothing that the law and all that it calls make is longer than what came in: it says more and counts as full. Else prove '..UptoSaid'. A law counts once. -/
mutual
def uptoBulk {H : Type} : DataW H → Nat
  | .lit (.string bytes) => bytes.length + 1
  | .lit _ => 1
  | .nil => 1
  | .ptr d => uptoBulk d + 1
  | .slice elems spare => uptoBulkAll elems + uptoBulkAll spare + 1
  | .agg parts => uptoBulkAll parts + 1
  | .iface _ d => uptoBulk d + 1
  | .map entries => uptoBulkEntries entries + 1
  | .held _ => 1
def uptoBulkAll {H : Type} : List (DataW H) → Nat
  | [] => 0
  | d :: r => uptoBulk d + uptoBulkAll r
def uptoBulkEntries {H : Type} : List (Lit × DataW H) → Nat
  | [] => 0
  | x :: r => uptoBulkEntry x + uptoBulkEntries r
def uptoBulkEntry {H : Type} : Lit × DataW H → Nat
  | (.string bytes, d) => bytes.length + uptoBulk d + 1
  | (_, d) => uptoBulk d + 1
 end
def uptoSmall : (H : Type) → List (DataW H) → Bool := fun _ ds => decide (uptoBulkAll ds ≤ 1048576)
def OpenSpec.upto (s : _root_.Go.ChangeSpec) : _root_.Go.OpenSpec := { _root_.Go.OpenSpec.ofChange s with cond := some uptoSmall }

/-- 'doormanlaw21.EvictTells', WHERE WHAT IT READS IS OF BULK AT MOST 1048576: true; the input reads as it did. -/
def evictTellsUptoRow : OpenClaim := { program := "ytklmlgoeiaigkaa", sum := "3ae9b1f75a91dce47d5e795a0ccb8cab87cb760725b2e1c3100f5d2b00f829a0", func := "doorman/doormanlaw21.EvictTells", spec := "evictTells", unfollowed := true, recurses := true, plainKeys := false, apart := false, narrowed := true }
def EvictTellsUptoSaid : Prop := evictTellsUptoRow.holds Try.pinned (OpenSpec.upto evictTellsSpec)

/-- 'doormanlaw21.EvictNever', WHERE WHAT IT READS IS OF BULK AT MOST 1048576: true; the input reads as it did. -/
def evictNeverUptoRow : OpenClaim := { program := "ytklmlgoeiaigkaa", sum := "3ae9b1f75a91dce47d5e795a0ccb8cab87cb760725b2e1c3100f5d2b00f829a0", func := "doorman/doormanlaw21.EvictNever", spec := "evictNever", unfollowed := true, recurses := true, plainKeys := false, apart := false, narrowed := true }
def EvictNeverUptoSaid : Prop := evictNeverUptoRow.holds Try.pinned (OpenSpec.upto evictNeverSpec)

/-- 'doormanlaw21.EvictTurned', WHERE WHAT IT READS IS OF BULK AT MOST 1048576: true; the input reads as it did. -/
def evictTurnedUptoRow : OpenClaim := { program := "ytklmlgoeiaigkaa", sum := "3ae9b1f75a91dce47d5e795a0ccb8cab87cb760725b2e1c3100f5d2b00f829a0", func := "doorman/doormanlaw21.EvictTurned", spec := "evictTurned", unfollowed := true, recurses := true, plainKeys := false, apart := false, narrowed := true }
def EvictTurnedUptoSaid : Prop := evictTurnedUptoRow.holds Try.pinned (OpenSpec.upto evictTurnedSpec)

end Rows
end Go.Proofs.Ytklmlgoeiaigkaa
