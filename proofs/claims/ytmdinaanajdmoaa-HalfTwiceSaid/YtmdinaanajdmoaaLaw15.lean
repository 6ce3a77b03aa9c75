/- The statements of layer 15 (half), proved: decay as the document has it; to look in between changes nothing. For all scores and all numbers. -/
import Derived.Test.YtmdinaanajdmoaaHalf
import Derived.Test.YtmdinaanajdmoaaDoor
import Derived.Test.YtmdinaanajdmoaaKit
import Derived.Test.YtmdinaanajdmoaaTwoDoor
import Derived.Deep.RegionHeld3
namespace Go.Proofs.Ytmdinaanajdmoaa
set_option maxRecDepth 100000
open Go.ChangeShapes Go.WideShapes Go.ChangeAt Go.RowKit
open Ha Go.Deep
set_option linter.unusedVariables false
theorem cells_kept {W w' : World} (h : Below W.heap.size W w') {b o : Nat} {v : Value} (hc : W.cell? ⟨b, o, none⟩ = some v) : w'.cell? ⟨b, o, none⟩ = some v :=
  (h.cell (p := ⟨b, o, none⟩) (World.block_lt_of_cell? _ _ hc)).trans hc
theorem ex1 : decayS ⟨100, 0⟩ 10 25 = ⟨25, 20⟩ := by kernel_rfl
theorem ex2 : (decayS ⟨7, 3⟩ 1 5).p = 1 := by kernel_rfl
theorem awake15_any (w : World) : Calls Try.prog 8 #[] w fun e w' => e = .returned (.bool true) ∧ Below w.heap.size w w' := by
  have D := Lib.hid (fun W => by have h := decay_any ⟨100, 0⟩ 10 25 W; rwa [ex1] at h)
  have L := Lib.hid (fun W => by have h := left_any ⟨7, 3⟩ 1 5 W; rwa [ex2] at h)
  have EQ := fun W => eq_self ⟨25, 20⟩ W
  simp only [] at D EQ
  go_enter Try.func8, Try.ntmps8
  go_wp2_with fail
  refine (D.out _).mono ?_
  rintro e w1 ⟨rfl, hb1⟩
  go_wp2_with fail
  refine (L.out _).mono ?_
  rintro e w2 ⟨rfl, hb2⟩
  go_wp2_with fail
  go_ret
  exact ⟨rfl, low_trans hb1 hb2⟩
end Go.Proofs.Ytmdinaanajdmoaa
