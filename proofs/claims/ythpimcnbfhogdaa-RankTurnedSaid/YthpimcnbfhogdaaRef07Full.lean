/- The document's Full for layer 7, over Make. -/
import Derived.Test.YthpimcnbfhogdaaRef06All
import Derived.Test.YthpimcnbfhogdaaCidrKit
namespace Go.Proofs.Ythpimcnbfhogdaa.Ci
set_option maxRecDepth 100000
open Go.ChangeShapes Go.WideShapes Go.ChangeAt Go.RowKit
open Dec Words V4 V6 Ad
set_option linter.unusedVariables false
end Go.Proofs.Ythpimcnbfhogdaa.Ci
