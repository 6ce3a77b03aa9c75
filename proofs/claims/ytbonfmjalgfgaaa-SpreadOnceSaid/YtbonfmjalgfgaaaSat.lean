/- Contracts of package sat and of its document's answers. -/
import Derived.Test.YtbonfmjalgfgaaaRows
import Derived.WalkKit
import Derived.ProofKit
import Derived.LoopTactic
import Derived.Lib.Hide
import Derived.Test.YtbonfmjalgfgaaaSatMath
namespace Go.Proofs.Ytbonfmjalgfgaaa.Sat
set_option maxRecDepth 100000
open Go.ChangeShapes Go.WideShapes Go.ChangeAt Go.RowKit
set_option linter.unusedVariables false
theorem ret_int {k : IntKind} {a b : Int} (h : a = b) : Ending.returned (.int k a) = .returned (.int k b) := by rw [h]

end Go.Proofs.Ytbonfmjalgfgaaa.Sat
