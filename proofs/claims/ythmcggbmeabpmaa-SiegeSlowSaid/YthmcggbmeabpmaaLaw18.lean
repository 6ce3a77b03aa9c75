/- Of the statements of layer 18 (rank): what comes in; lists of numbers compared; a place around; the example. -/
import Derived.Test.YthmcggbmeabpmaaPeersAll
import Derived.Test.YthmcggbmeabpmaaRef18All
import Derived.Test.YthmcggbmeabpmaaRankTurns
import Derived.Test.YthmcggbmeabpmaaPeerDoor
import Derived.Test.YthmcggbmeabpmaaRecsDoor
import Derived.Test.YthmcggbmeabpmaaDoor
import Derived.Test.YthmcggbmeabpmaaBox
import Derived.Deep.CutRange
import Derived.Deep.LoopGhost
import Derived.Lib.MinMax
namespace Go.Proofs.Ythmcggbmeabpmaa
set_option maxRecDepth 100000
open Go.ChangeShapes Go.WideShapes Go.ChangeAt Go.RowKit
open Dec Words V4 V6 Ad Ci En Sat Ha Pe Stb Gr Mi Ra Go.Deep
set_option linter.unusedVariables false
def l18 : List Pr := [⟨⟨⟨false, 0, 1⟩, 1⟩, true, 0, ⟨0, 0⟩, 0, 0⟩, ⟨⟨⟨false, 0, 1⟩, 2⟩, true, 0, ⟨0, 0⟩, 5, 0⟩, ⟨⟨⟨false, 0, 1⟩, 3⟩, true, 0, ⟨0, 0⟩, 3, 0⟩]
theorem l18_ok : ∀ x ∈ l18, x.ok := by
  intro x hx
  simp only [l18, List.mem_cons, List.not_mem_nil, or_false] at hx
  rcases hx with rfl | rfl | rfl <;> exact ⟨⟨⟨by decide, by decide⟩, by decide, by decide⟩, by decide, ⟨by decide, by decide⟩, by decide, by decide⟩
theorem l18_ord : ordR l18 2 7 = [2, 1] := by
  refine ordR_is (by decide +kernel) fun x => ?_
  by_cases h : x < 3
  · have : x = 0 ∨ x = 1 ∨ x = 2 := by omega
    rcases this with rfl | rfl | rfl <;> decide +kernel
  · constructor
    · intro hx
      simp only [List.mem_cons, List.not_mem_nil, or_false] at hx
      omega
    · intro hx
      have : x < 3 := hx.1
      omega
theorem l18_first : firstR l18 2 9 7 = [2, 1] := by
  unfold firstR
  rw [l18_ord]; rfl
end Go.Proofs.Ythmcggbmeabpmaa
