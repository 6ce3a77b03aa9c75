/- Contracts of the document's answers for layer 12 (one ban): what is read. -/
import Derived.Test.YtpbgmgjnclhpmaaDoorRef12
import Derived.Test.YtpbgmgjnclhpmaaDoorRef09All
namespace Go.Proofs.YtpbgmgjnclhpmaaDoor.Ba
set_option maxRecDepth 100000
open Go.ChangeShapes Go.WideShapes Go.ChangeAt Go.RowKit
open Dec Words V4 V6 Ad Ci
set_option linter.unusedVariables false
set_option linter.unusedSimpArgs false
attribute [local irreducible] World.setCell
theorem preB_at {l : List UInt8} {k : Nat} (h : k < l.length) (e : l[k] = 32) (hn : ∀ j (h : j < l.length), j < k → l[j] ≠ 32) : preB l = l.take k ∧ (32 : UInt8) ∈ l := by
  have hu : (32 : UInt8) ∉ l.take k := fun hm => by
    obtain ⟨j, hj, e2⟩ := List.getElem_of_mem hm
    rw [List.length_take] at hj
    rw [List.getElem_take] at e2
    exact hn j (by omega) (by omega) e2
  have s : l.take k ++ 32 :: l.drop (k + 1) = l := by
    rw [← e, List.getElem_cons_drop, List.take_append_drop]
  refine ⟨?_, by rw [← e]; exact List.getElem_mem h⟩
  have := preB_mid hu (l.drop (k + 1))
  rwa [s] at this
theorem no_blank {l : List UInt8} (hn : ∀ j (h : j < l.length), l[j] ≠ 32) : (32 : UInt8) ∉ l := fun hm => by
  obtain ⟨j, hj, e⟩ := List.getElem_of_mem hm
  exact hn j hj e
end Go.Proofs.YtpbgmgjnclhpmaaDoor.Ba
