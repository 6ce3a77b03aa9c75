/- Contract of the document's answers for layer 7: the subnet of one address. -/
import Derived.Test.YtmkpacbalnkdbaaRef07Make
import Derived.Test.YtmkpacbalnkdbaaCidrMore
namespace Go.Proofs.Ytmkpacbalnkdbaa.Ci
set_option maxRecDepth 100000
open Go.ChangeShapes Go.WideShapes Go.ChangeAt Go.RowKit
open Dec Words V4 V6 Ad
set_option linter.unusedVariables false
end Go.Proofs.Ytmkpacbalnkdbaa.Ci
