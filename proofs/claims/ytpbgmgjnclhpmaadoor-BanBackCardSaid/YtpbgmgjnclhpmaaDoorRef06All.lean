/- Contracts of the document's answers for layer 6: what needs no text. -/
import Derived.Test.YtpbgmgjnclhpmaaDoorAddrAll
import Derived.Test.YtpbgmgjnclhpmaaDoorRef05All
namespace Go.Proofs.YtpbgmgjnclhpmaaDoor.Ad
set_option maxRecDepth 100000
open Go.ChangeShapes Go.WideShapes Go.ChangeAt Go.RowKit
set_option linter.unusedVariables false
end Go.Proofs.YtpbgmgjnclhpmaaDoor.Ad
/- Contracts of the document's answers for layer 6: texts. -/
namespace Go.Proofs.YtpbgmgjnclhpmaaDoor.Ad
set_option maxRecDepth 100000
open Go.ChangeShapes Go.WideShapes Go.ChangeAt Go.RowKit
open Dec Words V4 V6
set_option linter.unusedVariables false
end Go.Proofs.YtpbgmgjnclhpmaaDoor.Ad
