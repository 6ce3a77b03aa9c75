/- The document's answers of layer 26: Find, has, Count, Right, Set, Down; two books compared. -/
import Derived.Test.YtbonfmjalgfgaaaBookAll
import Derived.Deep.RegionHeld3
import Derived.Deep.RegionLaw
namespace Go.Proofs.Ytbonfmjalgfgaaa.Bo
set_option maxRecDepth 100000
open Go.ChangeShapes Go.WideShapes Go.ChangeAt Go.RowKit
open Ad Ci En Sat Bk Et Go.Deep
set_option linter.unusedVariables false
end Go.Proofs.Ytbonfmjalgfgaaa.Bo
/- The document's answers of layer 26: Add. -/
namespace Go.Proofs.Ytbonfmjalgfgaaa.Bo
set_option maxRecDepth 100000
open Go.ChangeShapes Go.WideShapes Go.ChangeAt Go.RowKit
open Ad Ci En Sat Bk Et Go.Deep
set_option linter.unusedVariables false
end Go.Proofs.Ytbonfmjalgfgaaa.Bo
