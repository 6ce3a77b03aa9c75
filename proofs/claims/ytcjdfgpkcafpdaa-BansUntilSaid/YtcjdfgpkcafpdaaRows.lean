/-
  No cell of these rows narrows 'for every input' (looked for: loops, veiled, ifaces, maps, wideKeys, modest, calm, conditions, laid).
  DERIVED. THE GIVEN ROWS OF THIS SEAT. 3 by the template 'for every input the law returns true; each argument reads behind the call as it read before'; 0 by the template 'total and deterministic' (their statements: YtcjdfgpkcafpdaaTotals.lean).
  GIVEN WITH THE SEED: the statements are not yours to turn. If you find one false, say at which input.
  Laid BY PROGRAM, IN A SANDBOX (cutbox-rows.mjs): the forced cells as the released guide's own fill.sh prints them over the translation e17dffd0d6964378… (all of the seat's roots in one cut). By AI agents, Wed Nov 11 2026. No macro, syntax, notation, axiom, sorry.
-/
import Derived.Test.YtcjdfgpkcafpdaaChecked
import GoSem.Claim
import GoSem.ClaimJoined
import GoSem.ClaimMapViews
import Derived.JoinedTies
import Derived.KernelRfl
namespace Go.Proofs.Ytcjdfgpkcafpdaa
/- THE CELL 'sum', in the pinned program and in every row, IS THE sha256 OF THE DUMP (.gsa) THAT YtcjdfgpkcafpdaaProg.lean LOADS. Nothing in Lean hashes anything: it is a label: what it is worth is what the hold of that sum in a sandbox is worth. -/
noncomputable def Try.pinned : Pinned := { name := "ytcjdfgpkcafpdaa", sum := "e17dffd0d696437806bc707bf21ade92dbb25fa2cd8d7f948d7f1fd01ee2044c", checked := Try.checked }
namespace Rows
def none {H : Type} : Left H := { results := [], args := [] }

/-- 'doormanlaw13.BansTells': WHATEVER THE INPUT: true; the input reads as it did. -/
def bansTellsSpec : ChangeSpec := { name := "bansTells", fn := fun _ => fun
  | [d1, d2, d3] => { results := [.lit (.bool true)], args := [d1, d2, d3] }
  | _ => none }
def bansTellsRow : OpenClaim := { program := "ytcjdfgpkcafpdaa", sum := "e17dffd0d696437806bc707bf21ade92dbb25fa2cd8d7f948d7f1fd01ee2044c", func := "doorman/doormanlaw13.BansTells", spec := "bansTells", inPlace := ["slices.overlaps[doorman/api.Ban]"], unfollowed := true, recurses := true, apart := false }
def BansTellsSaid : Prop := bansTellsRow.holds Try.pinned (OpenSpec.ofChange bansTellsSpec)

/-- ITS FALSE NEIGHBOUR: 'it returns false'. Refute it at one input. -/
def bansTellsWrong : ChangeSpec := { name := "bansTells", fn := fun _ => fun
  | [d1, d2, d3] => { results := [.lit (.bool false)], args := [d1, d2, d3] }
  | _ => none }
def BansTellsWrongFalsely : Prop := bansTellsRow.holds Try.pinned (OpenSpec.ofChange bansTellsWrong)

/-- 'doormanlaw13.BansUntil': WHATEVER THE INPUT: true; the input reads as it did. -/
def bansUntilSpec : ChangeSpec := { name := "bansUntil", fn := fun _ => fun
  | [d1, d2, d3] => { results := [.lit (.bool true)], args := [d1, d2, d3] }
  | _ => none }
def bansUntilRow : OpenClaim := { program := "ytcjdfgpkcafpdaa", sum := "e17dffd0d696437806bc707bf21ade92dbb25fa2cd8d7f948d7f1fd01ee2044c", func := "doorman/doormanlaw13.BansUntil", spec := "bansUntil", inPlace := ["slices.overlaps[doorman/api.Ban]"], unfollowed := true, recurses := true, apart := false }
def BansUntilSaid : Prop := bansUntilRow.holds Try.pinned (OpenSpec.ofChange bansUntilSpec)

/-- ITS FALSE NEIGHBOUR: 'it returns false'. Refute it at one input. -/
def bansUntilWrong : ChangeSpec := { name := "bansUntil", fn := fun _ => fun
  | [d1, d2, d3] => { results := [.lit (.bool false)], args := [d1, d2, d3] }
  | _ => none }
def BansUntilWrongFalsely : Prop := bansUntilRow.holds Try.pinned (OpenSpec.ofChange bansUntilWrong)

/-- 'doormanlaw13.BansStay': WHATEVER THE INPUT: true; the input reads as it did. -/
def bansStaySpec : ChangeSpec := { name := "bansStay", fn := fun _ => fun
  | [d1, d2] => { results := [.lit (.bool true)], args := [d1, d2] }
  | _ => none }
def bansStayRow : OpenClaim := { program := "ytcjdfgpkcafpdaa", sum := "e17dffd0d696437806bc707bf21ade92dbb25fa2cd8d7f948d7f1fd01ee2044c", func := "doorman/doormanlaw13.BansStay", spec := "bansStay", inPlace := ["slices.overlaps[doorman/api.Ban]"], unfollowed := true, recurses := true, apart := false }
def BansStaySaid : Prop := bansStayRow.holds Try.pinned (OpenSpec.ofChange bansStaySpec)

/-- ITS FALSE NEIGHBOUR: 'it returns false'. Refute it at one input. -/
def bansStayWrong : ChangeSpec := { name := "bansStay", fn := fun _ => fun
  | [d1, d2] => { results := [.lit (.bool false)], args := [d1, d2] }
  | _ => none }
def BansStayWrongFalsely : Prop := bansStayRow.holds Try.pinned (OpenSpec.ofChange bansStayWrong)

/- THE SECOND FORM. 'bulk': how many values and letters a reading holds, each counted each time it is reached (what is shared counts as often as it is met; a slice's spare places count too). A statement '..UptoSaid' is the law's where the arguments, and the package variables that the reading takes, are together of bulk at most 1048576: NARROWER than '..Said'. Prove '..Said' where nothing that the law and all that it calls make is longer than what came in: it says more and counts as full. Else prove '..UptoSaid'. A law counts once. -/
mutual
def uptoBulk {H : Type} : DataW H → Nat
  | .lit (.string bytes) => bytes.length + 1
  | .lit _ => 1
  | .nil => 1
  | .ptr d => uptoBulk d + 1
  | .slice elems spare => uptoBulkAll elems + uptoBulkAll spare + 1
  | .agg parts => uptoBulkAll parts + 1
  | .iface _ d => uptoBulk d + 1
  | .map entries => uptoBulkEntries entries + 1
  | .held _ => 1
def uptoBulkAll {H : Type} : List (DataW H) → Nat
  | [] => 0
  | d :: r => uptoBulk d + uptoBulkAll r
def uptoBulkEntries {H : Type} : List (Lit × DataW H) → Nat
  | [] => 0
  | x :: r => uptoBulkEntry x + uptoBulkEntries r
def uptoBulkEntry {H : Type} : Lit × DataW H → Nat
  | (.string bytes, d) => bytes.length + uptoBulk d + 1
  | (_, d) => uptoBulk d + 1
 end
def uptoSmall : (H : Type) → List (DataW H) → Bool := fun _ ds => decide (uptoBulkAll ds ≤ 1048576)
def OpenSpec.upto (s : _root_.Go.ChangeSpec) : _root_.Go.OpenSpec := { _root_.Go.OpenSpec.ofChange s with cond := some uptoSmall }

/-- 'doormanlaw13.BansTells', WHERE WHAT IT READS IS OF BULK AT MOST 1048576: true; the input reads as it did. -/
def bansTellsUptoRow : OpenClaim := { program := "ytcjdfgpkcafpdaa", sum := "e17dffd0d696437806bc707bf21ade92dbb25fa2cd8d7f948d7f1fd01ee2044c", func := "doorman/doormanlaw13.BansTells", spec := "bansTells", inPlace := ["slices.overlaps[doorman/api.Ban]"], unfollowed := true, recurses := true, apart := false, narrowed := true }
def BansTellsUptoSaid : Prop := bansTellsUptoRow.holds Try.pinned (OpenSpec.upto bansTellsSpec)

/-- 'doormanlaw13.BansUntil', WHERE WHAT IT READS IS OF BULK AT MOST 1048576: true; the input reads as it did. -/
def bansUntilUptoRow : OpenClaim := { program := "ytcjdfgpkcafpdaa", sum := "e17dffd0d696437806bc707bf21ade92dbb25fa2cd8d7f948d7f1fd01ee2044c", func := "doorman/doormanlaw13.BansUntil", spec := "bansUntil", inPlace := ["slices.overlaps[doorman/api.Ban]"], unfollowed := true, recurses := true, apart := false, narrowed := true }
def BansUntilUptoSaid : Prop := bansUntilUptoRow.holds Try.pinned (OpenSpec.upto bansUntilSpec)

/-- 'doormanlaw13.BansStay', WHERE WHAT IT READS IS OF BULK AT MOST 1048576: true; the input reads as it did. -/
def bansStayUptoRow : OpenClaim := { program := "ytcjdfgpkcafpdaa", sum := "e17dffd0d696437806bc707bf21ade92dbb25fa2cd8d7f948d7f1fd01ee2044c", func := "doorman/doormanlaw13.BansStay", spec := "bansStay", inPlace := ["slices.overlaps[doorman/api.Ban]"], unfollowed := true, recurses := true, apart := false, narrowed := true }
def BansStayUptoSaid : Prop := bansStayUptoRow.holds Try.pinned (OpenSpec.upto bansStaySpec)

end Rows
end Go.Proofs.Ytcjdfgpkcafpdaa
