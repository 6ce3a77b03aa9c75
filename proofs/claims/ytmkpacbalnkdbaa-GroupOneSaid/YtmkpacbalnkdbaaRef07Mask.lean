/- Contracts of the document's answers for layer 7: masks, and what is made. -/
import Derived.Test.YtmkpacbalnkdbaaRef07
namespace Go.Proofs.Ytmkpacbalnkdbaa.Ci
set_option maxRecDepth 100000
open Go.ChangeShapes Go.WideShapes Go.ChangeAt Go.RowKit
open Dec Words V4 V6 Ad
set_option linter.unusedVariables false
theorem mask_six {hi lo k : Nat} {i : Int} (hr : rightA ⟨true, hi, lo⟩ = true) (hk : k = min i.toNat 128) : maskA ⟨true, hi, lo⟩ i = ⟨true, keep hi (64 - k), keep lo (128 - k)⟩ := by
  unfold maskA
  rw [if_pos hr, show bitsA ⟨true, hi, lo⟩ = 128 from rfl, ← hk]
  unfold firstA
  rw [show bitsA ⟨true, hi, lo⟩ = 128 from rfl]
  simp only []
  rw [show 128 - k - 64 = 64 - k from by omega]
theorem mask_four {lo k : Nat} {i : Int} (hr : rightA ⟨false, 0, lo⟩ = true) (hk : k = min i.toNat 32) : maskA ⟨false, 0, lo⟩ i = ⟨false, 0, keep lo (128 - (96 + k))⟩ := by
  unfold maskA
  rw [if_pos hr, show bitsA ⟨false, 0, lo⟩ = 32 from rfl, ← hk]
  unfold firstA
  rw [show bitsA ⟨false, 0, lo⟩ = 32 from rfl]
  simp only []
  rw [keep_nil, show 32 - k = 128 - (96 + k) from by omega]
end Go.Proofs.Ytmkpacbalnkdbaa.Ci
