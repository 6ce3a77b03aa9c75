/- Contracts of the library, laid at this translation. -/
import Derived.Shelf.Lay
import Derived.Shelf.LaySoft
import Derived.Test.YtnknhmfhejdbfaaProg
namespace Go.Proofs
open Go.Shelf

end Go.Proofs
