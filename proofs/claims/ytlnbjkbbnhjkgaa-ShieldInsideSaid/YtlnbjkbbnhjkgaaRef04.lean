/- Contracts of the document's answers for layer 4. -/
import Derived.Test.YtlnbjkbbnhjkgaaIpv4
import Derived.Test.YtlnbjkbbnhjkgaaRef02All
import Derived.Test.YtlnbjkbbnhjkgaaRef03Split
namespace Go.Proofs.Ytlnbjkbbnhjkgaa.V4
set_option maxRecDepth 100000
open Go.ChangeShapes Go.WideShapes Go.ChangeAt Go.RowKit
open Dec Words
set_option linter.unusedVariables false
theorem cat7 (a b c d : List UInt8) : Value.string (⟨a.toArray⟩ ++ ⟨#[46]⟩ ++ ⟨b.toArray⟩ ++ ⟨#[46]⟩ ++ ⟨c.toArray⟩ ++ ⟨#[46]⟩ ++ ⟨d.toArray⟩) = .string ⟨(glue 46 [a, b, c, d]).toArray⟩ := by
  show Value.string (⟨a.toArray⟩ ++ ⟨[46].toArray⟩ ++ ⟨b.toArray⟩ ++ ⟨[46].toArray⟩ ++ ⟨c.toArray⟩ ++ ⟨[46].toArray⟩ ++ ⟨d.toArray⟩) = _
  simp only [ByteArray.mk_append_mk, glue]
  simp
theorem fold_step (ps : List (List UInt8)) (k : Nat) (hlt : k < ps.length) (m : Nat) (hm : m = val4 (ps.take k) % 4294967296) :
    256 * (m : Int) % 4294967296 + parN ps[k] 255 = ((val4 (ps.take (k + 1)) % 4294967296 : Nat) : Int) := by
  have hp := parN255 ps[k]
  rw [List.take_succ_eq_append_getElem hlt, val4_snoc, hm]
  omega
end Go.Proofs.Ytlnbjkbbnhjkgaa.V4
