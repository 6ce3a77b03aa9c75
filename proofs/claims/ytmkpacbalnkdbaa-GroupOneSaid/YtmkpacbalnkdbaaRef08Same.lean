/- Contracts of the document's answers for layer 8: two addresses of one kind. -/
import Derived.Test.YtmkpacbalnkdbaaRef08
import Derived.Test.YtmkpacbalnkdbaaRef08Six
import Derived.Test.YtmkpacbalnkdbaaRef08Four
namespace Go.Proofs.Ytmkpacbalnkdbaa.Gr
set_option maxRecDepth 100000
open Go.ChangeShapes Go.WideShapes Go.ChangeAt Go.RowKit
open Dec Words V4 V6 Ad Ci
set_option linter.unusedVariables false
theorem rsameG_any (a b : Adr) (w : World) (ha : a.ok) (hb : b.ok) :
    Calls Try.prog 10 #[.agg #[.bool a.v6, .int .u64 a.hi, .int .u64 a.lo], .agg #[.bool b.v6, .int .u64 b.hi, .int .u64 b.lo]] w fun e w' => e = .returned (.bool (sameG a b)) ∧ Below w.heap.size w w' := by
  cases hra : rightA a
  · exact rsame_off a b w ha hb (Or.inl hra)
  · cases hrb : rightA b
    · exact rsame_off a b w ha hb (Or.inr (Or.inl hrb))
    · by_cases hv : a.v6 = b.v6
      · obtain ⟨v, h1, l1⟩ := a
        obtain ⟨v2, h2, l2⟩ := b
        simp only [] at hv
        subst hv
        cases v
        · exact rsame_on16 h1 l1 h2 l2 w ha hb hra hrb
        · exact rsame_on32 h1 l1 h2 l2 w ha hb hra hrb
      · exact rsame_off a b w ha hb (Or.inr (Or.inr hv))
end Go.Proofs.Ytmkpacbalnkdbaa.Gr
