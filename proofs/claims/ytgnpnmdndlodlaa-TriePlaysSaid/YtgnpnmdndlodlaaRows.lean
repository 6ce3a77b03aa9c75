/-
  No cell of these rows narrows 'for every input' (looked for: loops, veiled, ifaces, maps, wideKeys, modest, calm, conditions, laid).
  DERIVED. THE GIVEN ROWS OF THIS SEAT. 3 by the template 'for every input the law returns true; each argument reads behind the call as it read before'; 0 by the template 'total and deterministic' (their statements: YtgnpnmdndlodlaaTotals.lean).
  GIVEN WITH THE SEED: the statements are not yours to turn. If you find one false, say at which input.
  Laid BY PROGRAM, IN A SANDBOX (cutbox-rows.mjs): the forced cells as the released guide's own fill.sh prints them over the translation b798f7d7abc85f21… (all of the seat's roots in one cut). By AI agents, Wed Nov 11 2026. No macro, syntax, notation, axiom, sorry.
-/
import Derived.Test.YtgnpnmdndlodlaaChecked
import GoSem.Claim
import GoSem.ClaimJoined
import GoSem.ClaimMapViews
import Derived.JoinedTies
import Derived.KernelRfl
namespace Go.Proofs.Ytgnpnmdndlodlaa
/- THE CELL 'sum', in the pinned program and in every row, IS THE sha256 OF THE DUMP (.gsa) THAT YtgnpnmdndlodlaaProg.lean LOADS. Nothing in Lean hashes anything: it is a label: what it is worth is what the hold of that sum in a sandbox is worth. -/
noncomputable def Try.pinned : Pinned := { name := "ytgnpnmdndlodlaa", sum := "b798f7d7abc85f212ea25b5529f136ede73c83494c27247742828d0d416497e9", checked := Try.checked }
namespace Rows
def none {H : Type} : Left H := { results := [], args := [] }

/-- 'doormanlaw11.TriePlays': WHATEVER THE INPUT: true; the input reads as it did. -/
def triePlaysSpec : ChangeSpec := { name := "triePlays", fn := fun _ => fun
  | [d1, d2, d3] => { results := [.lit (.bool true)], args := [d1, d2, d3] }
  | _ => none }
def triePlaysRow : OpenClaim := { program := "ytgnpnmdndlodlaa", sum := "b798f7d7abc85f212ea25b5529f136ede73c83494c27247742828d0d416497e9", func := "doorman/doormanlaw11.TriePlays", spec := "triePlays", unfollowed := true, recurses := true, apart := false }
def TriePlaysSaid : Prop := triePlaysRow.holds Try.pinned (OpenSpec.ofChange triePlaysSpec)

/-- ITS FALSE NEIGHBOUR: 'it returns false'. Refute it at one input. -/
def triePlaysWrong : ChangeSpec := { name := "triePlays", fn := fun _ => fun
  | [d1, d2, d3] => { results := [.lit (.bool false)], args := [d1, d2, d3] }
  | _ => none }
def TriePlaysWrongFalsely : Prop := triePlaysRow.holds Try.pinned (OpenSpec.ofChange triePlaysWrong)

/-- 'doormanlaw11.TrieStays': WHATEVER THE INPUT: true; the input reads as it did. -/
def trieStaysSpec : ChangeSpec := { name := "trieStays", fn := fun _ => fun
  | [d1, d2] => { results := [.lit (.bool true)], args := [d1, d2] }
  | _ => none }
def trieStaysRow : OpenClaim := { program := "ytgnpnmdndlodlaa", sum := "b798f7d7abc85f212ea25b5529f136ede73c83494c27247742828d0d416497e9", func := "doorman/doormanlaw11.TrieStays", spec := "trieStays", unfollowed := true, recurses := true, apart := false }
def TrieStaysSaid : Prop := trieStaysRow.holds Try.pinned (OpenSpec.ofChange trieStaysSpec)

/-- ITS FALSE NEIGHBOUR: 'it returns false'. Refute it at one input. -/
def trieStaysWrong : ChangeSpec := { name := "trieStays", fn := fun _ => fun
  | [d1, d2] => { results := [.lit (.bool false)], args := [d1, d2] }
  | _ => none }
def TrieStaysWrongFalsely : Prop := trieStaysRow.holds Try.pinned (OpenSpec.ofChange trieStaysWrong)

/-- 'doormanlaw11.TrieForm': WHATEVER THE INPUT: true; the input reads as it did. -/
def trieFormSpec : ChangeSpec := { name := "trieForm", fn := fun _ => fun
  | [d1, d2] => { results := [.lit (.bool true)], args := [d1, d2] }
  | _ => none }
def trieFormRow : OpenClaim := { program := "ytgnpnmdndlodlaa", sum := "b798f7d7abc85f212ea25b5529f136ede73c83494c27247742828d0d416497e9", func := "doorman/doormanlaw11.TrieForm", spec := "trieForm", unfollowed := true, recurses := true, apart := false }
def TrieFormSaid : Prop := trieFormRow.holds Try.pinned (OpenSpec.ofChange trieFormSpec)

/-- ITS FALSE NEIGHBOUR: 'it returns false'. Refute it at one input. -/
def trieFormWrong : ChangeSpec := { name := "trieForm", fn := fun _ => fun
  | [d1, d2] => { results := [.lit (.bool false)], args := [d1, d2] }
  | _ => none }
def TrieFormWrongFalsely : Prop := trieFormRow.holds Try.pinned (OpenSpec.ofChange trieFormWrong)

/- THE SECOND FORM. 'bulk': how many values and letters a reading holds, each counted each time it is reached (what is shared counts as often as it is met; a slice's spare places count too). A statement '..UptoSaid' is the law's where the arguments, and the package variables that the reading takes, are together of bulk at most 1048576: NARROWER than '..Said'. Prove '..Said' where nothing that the law and all that it calls make is longer than what came in: it says more and counts as full. Else prove '..UptoSaid'. A law counts once. -/
mutual
def uptoBulk {H : Type} : DataW H → Nat
  | .lit (.string bytes) => bytes.length + 1
  | .lit _ => 1
  | .nil => 1
  | .ptr d => uptoBulk d + 1
  | .slice elems spare => uptoBulkAll elems + uptoBulkAll spare + 1
  | .agg parts => uptoBulkAll parts + 1
  | .iface _ d => uptoBulk d + 1
  | .map entries => uptoBulkEntries entries + 1
  | .held _ => 1
def uptoBulkAll {H : Type} : List (DataW H) → Nat
  | [] => 0
  | d :: r => uptoBulk d + uptoBulkAll r
def uptoBulkEntries {H : Type} : List (Lit × DataW H) → Nat
  | [] => 0
  | x :: r => uptoBulkEntry x + uptoBulkEntries r
def uptoBulkEntry {H : Type} : Lit × DataW H → Nat
  | (.string bytes, d) => bytes.length + uptoBulk d + 1
  | (_, d) => uptoBulk d + 1
 end
def uptoSmall : (H : Type) → List (DataW H) → Bool := fun _ ds => decide (uptoBulkAll ds ≤ 1048576)
def OpenSpec.upto (s : _root_.Go.ChangeSpec) : _root_.Go.OpenSpec := { _root_.Go.OpenSpec.ofChange s with cond := some uptoSmall }

/-- 'doormanlaw11.TriePlays', WHERE WHAT IT READS IS OF BULK AT MOST 1048576: true; the input reads as it did. -/
def triePlaysUptoRow : OpenClaim := { program := "ytgnpnmdndlodlaa", sum := "b798f7d7abc85f212ea25b5529f136ede73c83494c27247742828d0d416497e9", func := "doorman/doormanlaw11.TriePlays", spec := "triePlays", unfollowed := true, recurses := true, apart := false, narrowed := true }
def TriePlaysUptoSaid : Prop := triePlaysUptoRow.holds Try.pinned (OpenSpec.upto triePlaysSpec)

/-- 'doormanlaw11.TrieStays', WHERE WHAT IT READS IS OF BULK AT MOST 1048576: true; the input reads as it did. -/
def trieStaysUptoRow : OpenClaim := { program := "ytgnpnmdndlodlaa", sum := "b798f7d7abc85f212ea25b5529f136ede73c83494c27247742828d0d416497e9", func := "doorman/doormanlaw11.TrieStays", spec := "trieStays", unfollowed := true, recurses := true, apart := false, narrowed := true }
def TrieStaysUptoSaid : Prop := trieStaysUptoRow.holds Try.pinned (OpenSpec.upto trieStaysSpec)

/-- 'doormanlaw11.TrieForm', WHERE WHAT IT READS IS OF BULK AT MOST 1048576: true; the input reads as it did. -/
def trieFormUptoRow : OpenClaim := { program := "ytgnpnmdndlodlaa", sum := "b798f7d7abc85f212ea25b5529f136ede73c83494c27247742828d0d416497e9", func := "doorman/doormanlaw11.TrieForm", spec := "trieForm", unfollowed := true, recurses := true, apart := false, narrowed := true }
def TrieFormUptoSaid : Prop := trieFormUptoRow.holds Try.pinned (OpenSpec.upto trieFormSpec)

end Rows
end Go.Proofs.Ytgnpnmdndlodlaa
