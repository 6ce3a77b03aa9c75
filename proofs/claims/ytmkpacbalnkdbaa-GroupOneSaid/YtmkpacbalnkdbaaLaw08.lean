/- Of the statements of layer 8: the example. -/
import Derived.Test.YtmkpacbalnkdbaaRef08Same
import Derived.Test.YtmkpacbalnkdbaaAddrDoor
import Derived.Deep.RegionHeld3
namespace Go.Proofs.Ytmkpacbalnkdbaa
set_option maxRecDepth 100000
open Go.ChangeShapes Go.WideShapes Go.ChangeAt Go.RowKit
open Words Dec V4 V6 Ad Ci Gr
set_option linter.unusedVariables false
set_option maxHeartbeats 2000000 in
theorem awake08_any (w : World) : Calls Try.prog 12 #[] w fun e w' => e = .returned (.bool true) ∧ Below w.heap.size w w' := by
  have T1 := Lib.hid (fun W => textG_any (⟨false, 0, 167838211⟩ : Adr) W ⟨by decide, by decide⟩)
  rw [show textG (⟨false, 0, 167838211⟩ : Adr) = [49, 48, 46, 49, 46, 48, 46, 48, 47, 49, 54] from by decide +kernel] at T1
  have S1 := Lib.hid (fun W => sameG_any (⟨false, 0, 167838211⟩ : Adr) (⟨false, 0, 167903231⟩ : Adr) W ⟨by decide, by decide⟩ ⟨by decide, by decide⟩)
  rw [show sameG (⟨false, 0, 167838211⟩ : Adr) (⟨false, 0, 167903231⟩ : Adr) = true from by decide +kernel] at S1
  have S2 := Lib.hid (fun W => sameG_any (⟨false, 0, 167838211⟩ : Adr) (⟨false, 0, 167903747⟩ : Adr) W ⟨by decide, by decide⟩ ⟨by decide, by decide⟩)
  rw [show sameG (⟨false, 0, 167838211⟩ : Adr) (⟨false, 0, 167903747⟩ : Adr) = false from by decide +kernel] at S2
  go_enter Try.func12, Try.ntmps12
  go_wp2_with fail
  refine (T1.out _).mono ?_
  rintro e w1 ⟨rfl, hb1⟩
  go_wp2_with fail
  refine (S1.out _).mono ?_
  rintro e w2 ⟨rfl, hb2⟩
  go_wp2_with fail
  refine (S2.out _).mono ?_
  rintro e w3 ⟨rfl, hb3⟩
  go_wp2_with fail
  go_ret
  exact ⟨rfl, low_trans hb1 (low_trans hb2 hb3)⟩
end Go.Proofs.Ytmkpacbalnkdbaa
