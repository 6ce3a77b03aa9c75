/- Of the statements of layer 9: the example. -/
import Derived.Test.YtboojhpconongaaDoorRef09Read
import Derived.Test.YtboojhpconongaaDoorEndpDoor
import Derived.Test.YtboojhpconongaaDoorDoor
import Derived.Deep.RegionHeld3
namespace Go.Proofs.YtboojhpconongaaDoor
set_option maxRecDepth 100000
open Go.ChangeShapes Go.WideShapes Go.ChangeAt Go.RowKit
open Words Dec V4 V6 Ad Ci En
set_option linter.unusedVariables false
abbrev S09a (w1 w2 : World) (w' : World) : Prop := w'.cell? ⟨w1.heap.size, 0, none⟩ = some (.bool true) ∧ w'.cell? ⟨w1.heap.size, 1, none⟩ = some (.int .u64 0) ∧ w'.cell? ⟨w1.heap.size, 2, none⟩ = some (.int .u64 1) ∧ w'.cell? ⟨w1.heap.size, 3, none⟩ = some (.int .i64 80) ∧ w'.cell? ⟨w2.heap.size, 0, none⟩ = some (.bool false) ∧ w'.cell? ⟨w2.heap.size, 1, none⟩ = some (.int .u64 0) ∧ w'.cell? ⟨w2.heap.size, 2, none⟩ = some (.int .u64 16909060) ∧ w'.cell? ⟨w2.heap.size, 3, none⟩ = some (.int .i64 80) ∧ Stays (w2.alloc (.cells #[.bool false, .int .u64 0, .int .u64 16909060, .int .i64 80] 26)) w'
set_option maxHeartbeats 2000000 in
theorem awake09_any (w : World) (hL : Lens w) : Calls Tryd.prog 6 #[] w fun e w' => e = .returned (.bool true) ∧ Below w.heap.size w w' := by
  have P1 := Lib.hid (parseE_any [91, 58, 58, 49, 93, 58, 56, 48])
  unfold ParseE at P1
  rw [show parseE [91, 58, 58, 49, 93, 58, 56, 48] = (⟨⟨true, 0, 1⟩, 80⟩ : Endp) from end_is (by decide +kernel) (by decide +kernel) (by decide +kernel) (by decide +kernel), show okE [91, 58, 58, 49, 93, 58, 56, 48] = true from by decide +kernel] at P1
  have P2 := Lib.hid (parseE_any [91, 58, 58, 102, 102, 102, 102, 58, 49, 46, 50, 46, 51, 46, 52, 93, 58, 56, 48])
  unfold ParseE at P2
  rw [show parseE [91, 58, 58, 102, 102, 102, 102, 58, 49, 46, 50, 46, 51, 46, 52, 93, 58, 56, 48] = (⟨⟨false, 0, 16909060⟩, 80⟩ : Endp) from end_is (by decide +kernel) (by decide +kernel) (by decide +kernel) (by decide +kernel), show okE [91, 58, 58, 102, 102, 102, 102, 58, 49, 46, 50, 46, 51, 46, 52, 93, 58, 56, 48] = true from by decide +kernel] at P2
  have TX := fun W => textE_any (⟨⟨false, 0, 16909060⟩, 80⟩ : Endp) W ⟨⟨by decide, by decide⟩, by decide, by decide⟩
  rw [show textE (⟨⟨false, 0, 16909060⟩, 80⟩ : Endp) = [49, 46, 50, 46, 51, 46, 52, 58, 56, 48] from by decide +kernel] at TX
  have EQ : ∀ W, (binOp .eql 26 (.agg #[.bool true, .int .u64 0, .int .u64 1, .int .i64 80]) (.agg #[.bool true, .int .u64 0, .int .u64 1, .int .i64 80])).run Tryd.prog W = .ok (.bool true) W := fun W => eqEnd (⟨⟨true, 0, 1⟩, 80⟩ : Endp) (⟨⟨true, 0, 1⟩, 80⟩ : Endp) W
  go_enter Tryd.func6, Tryd.ntmps6
  go_wp2_with fail
  refine (P1.out _ (by decide) hL).mono ?_
  rintro e w1 ⟨rfl, hb1⟩
  have hL1 := hL.below (hb1.alloc hb1.size (.cells #[.bool true, .int .u64 0, .int .u64 1, .int .i64 80] 26))
  go_wp2_with fail
  refine (P2.out _ (by decide) hL1).mono ?_
  rintro e w2 ⟨rfl, hb2⟩
  have hs12 : Stays (w1.alloc (.cells #[.bool true, .int .u64 0, .int .u64 1, .int .i64 80] 26)) (w2.alloc (.cells #[.bool false, .int .u64 0, .int .u64 16909060, .int .i64 80] 26)) := hb2.alloc hb2.size _
  clear P1 P2
  have IN : ∀ w', Stays (w2.alloc (.cells #[.bool false, .int .u64 0, .int .u64 16909060, .int .i64 80] 26)) w' → S09a w1 w2 w' := fun w' h => ⟨Ci.cells_left h (Ci.cells_left hs12 (cell_new4 _ _ _ _ _ _).1), Ci.cells_left h (Ci.cells_left hs12 (cell_new4 _ _ _ _ _ _).2.1), Ci.cells_left h (Ci.cells_left hs12 (cell_new4 _ _ _ _ _ _).2.2.1), Ci.cells_left h (Ci.cells_left hs12 (cell_new4 _ _ _ _ _ _).2.2.2), Ci.cells_left h (cell_new4 _ _ _ _ _ _).1, Ci.cells_left h (cell_new4 _ _ _ _ _ _).2.1, Ci.cells_left h (cell_new4 _ _ _ _ _ _).2.2.1, Ci.cells_left h (cell_new4 _ _ _ _ _ _).2.2.2, h⟩
  have K1 : Hid (∀ W, S09a w1 w2 W → Calls Tryd.prog 11 #[.agg #[.bool false, .int .u64 0, .int .u64 16909060, .int .i64 80]] W fun e w' => e = .returned (.string ⟨#[49, 46, 50, 46, 51, 46, 52, 58, 56, 48]⟩) ∧ S09a w1 w2 w') := by
    intro W h
    have hs : Stays (w2.alloc (.cells #[.bool false, .int .u64 0, .int .u64 16909060, .int .i64 80] 26)) W := h.2.2.2.2.2.2.2.2
    have hc : Calls Tryd.prog 11 #[.agg #[.bool false, .int .u64 0, .int .u64 16909060, .int .i64 80]] W fun e w' => e = .returned (.string ⟨#[49, 46, 50, 46, 51, 46, 52, 58, 56, 48]⟩) ∧ Below W.heap.size W w' := TX W
    exact hc.mono fun e w' ⟨he, hb⟩ => ⟨he, IN _ (low_trans hs hb)⟩
  have hk0 : S09a w1 w2 (w2.alloc (.cells #[.bool false, .int .u64 0, .int .u64 16909060, .int .i64 80] 26)) := IN _ (Below.refl _ _)
  obtain ⟨a0, a1, a2, a3, b0, b1, b2, b3, hsx⟩ := id hk0
  go_wp2_with fail
  (with_reducible refine (K1.out _ hk0).mono ?_)
  rintro e w3 ⟨rfl, hk3⟩
  obtain ⟨q0_w3, q1_w3, q2_w3, q3_w3, q4_w3, q5_w3, q6_w3, q7_w3, hs_w3⟩ := id hk3
  go_wp2_with fail
  go_ret
  exact ⟨rfl, hb1.trans ((low_trans (Below.alloc (Below.refl _ _) (Nat.le_refl _) (.cells #[.bool true, .int .u64 0, .int .u64 1, .int .i64 80] 26)) (low_trans hs12 hk3.2.2.2.2.2.2.2.2)).mono hb1.size)⟩
end Go.Proofs.YtboojhpconongaaDoor
