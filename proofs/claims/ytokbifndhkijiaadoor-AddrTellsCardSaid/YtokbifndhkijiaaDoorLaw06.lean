/- Of the statements of layer 6: the example; words for regions over addresses. -/
import Derived.Test.YtokbifndhkijiaaDoorAddrDoor
import Derived.Test.YtokbifndhkijiaaDoorRef06Text
import Derived.Deep.RegionHeld3
namespace Go.Proofs.YtokbifndhkijiaaDoor
set_option maxRecDepth 100000
open Go.ChangeShapes Go.WideShapes Go.ChangeAt Go.RowKit
open Words Dec V4 V6 Ad
set_option linter.unusedVariables false
theorem cells_left {W w' : World} (h : Stays W w') {b o : Nat} {v : Value} (hc : W.cell? ⟨b, o, none⟩ = some v) : w'.cell? ⟨b, o, none⟩ = some v :=
  (h.cell (p := ⟨b, o, none⟩) (World.block_lt_of_cell? _ _ hc)).trans hc
theorem cell_new (w : World) (x y z : Value) (t : TypeId) : (w.alloc (.cells #[x, y, z] t)).cell? ⟨w.heap.size, 0, none⟩ = some x ∧ (w.alloc (.cells #[x, y, z] t)).cell? ⟨w.heap.size, 1, none⟩ = some y ∧ (w.alloc (.cells #[x, y, z] t)).cell? ⟨w.heap.size, 2, none⟩ = some z := by
  refine ⟨?_, ?_, ?_⟩ <;> (rw [cell_of_row _ _ _ _ _ _ (heap_alloc_new w _)]; rfl)
abbrev S06a (w1 : World) (w' : World) : Prop := w'.cell? ⟨w1.heap.size, 0, none⟩ = some (.bool false) ∧ w'.cell? ⟨w1.heap.size, 1, none⟩ = some (.int .u64 0) ∧ w'.cell? ⟨w1.heap.size, 2, none⟩ = some (.int .u64 16909060) ∧ Stays (w1.alloc (.cells #[.bool false, .int .u64 0, .int .u64 16909060] 24)) w'
set_option maxHeartbeats 2000000 in
theorem awake06_any (w : World) (hL : Lens w) : Calls Tryd.prog 6 #[] w fun e w' => e = .returned (.bool true) ∧ Below w.heap.size w w' := by
  have P1 := Lib.hid (parseA_any [58, 58, 102, 102, 102, 102, 58, 49, 46, 50, 46, 51, 46, 52])
  unfold ParseA at P1
  rw [show parseA [58, 58, 102, 102, 102, 102, 58, 49, 46, 50, 46, 51, 46, 52] = ⟨false, 0, 16909060⟩ from adr_eq (by decide +kernel) (by decide +kernel) (by decide +kernel), show okA [58, 58, 102, 102, 102, 102, 58, 49, 46, 50, 46, 51, 46, 52] = true from by decide +kernel] at P1
  have TX := textA_any ⟨false, 0, 16909060⟩
  rw [show textA ⟨false, 0, 16909060⟩ = [49, 46, 50, 46, 51, 46, 52] from by decide +kernel] at TX
  have BT := bit_any ⟨false, 0, 2147483648⟩ 0
  rw [show bitA ⟨false, 0, 2147483648⟩ 0 = 1 from by decide +kernel] at BT
  have TX := fun W => TX W ⟨by decide, by decide⟩
  have BT := fun W => BT W ⟨by decide, by decide⟩ (by decide) (by decide)
  have EQ : ∀ W, (binOp .eql 24 (.agg #[.bool false, .int .u64 0, .int .u64 16909060]) (.agg #[.bool false, .int .u64 0, .int .u64 16909060])).run Tryd.prog W = .ok (.bool true) W := fun W => eqAdr ⟨false, 0, 16909060⟩ ⟨false, 0, 16909060⟩ W
  go_enter Tryd.func6, Tryd.ntmps6
  go_wp2_with fail
  refine (P1.out _ (by decide) hL).mono ?_
  rintro e w1 ⟨rfl, hb1⟩
  go_wp2_with fail
  clear P1
  have IN : ∀ w', Stays (w1.alloc (.cells #[.bool false, .int .u64 0, .int .u64 16909060] 24)) w' → S06a w1 w' := fun w' h => ⟨cells_left h (cell_new _ _ _ _ _).1, cells_left h (cell_new _ _ _ _ _).2.1, cells_left h (cell_new _ _ _ _ _).2.2, h⟩
  have K1 : Hid (∀ W, S06a w1 W → Calls Tryd.prog 21 #[.int .u32 16909060] W fun e w' => e = .returned (.agg #[.bool false, .int .u64 0, .int .u64 16909060]) ∧ S06a w1 w') := by
    intro W h
    have hs : Stays (w1.alloc (.cells #[.bool false, .int .u64 0, .int .u64 16909060] 24)) W := h.2.2.2
    have hc : Calls Tryd.prog 21 #[.int .u32 16909060] W fun e w' => e = .returned (.agg #[.bool false, .int .u64 0, .int .u64 16909060]) ∧ Below W.heap.size W w' := v4_any 16909060 W (by decide)
    exact hc.mono fun e w' ⟨he, hb⟩ => ⟨he, IN _ (low_trans hs hb)⟩
  have K2 : Hid (∀ W, S06a w1 W → Calls Tryd.prog 11 #[.agg #[.bool false, .int .u64 0, .int .u64 16909060]] W fun e w' => e = .returned (.string ⟨#[49, 46, 50, 46, 51, 46, 52]⟩) ∧ S06a w1 w') := by
    intro W h
    have hs : Stays (w1.alloc (.cells #[.bool false, .int .u64 0, .int .u64 16909060] 24)) W := h.2.2.2
    have hc : Calls Tryd.prog 11 #[.agg #[.bool false, .int .u64 0, .int .u64 16909060]] W fun e w' => e = .returned (.string ⟨#[49, 46, 50, 46, 51, 46, 52]⟩) ∧ Below W.heap.size W w' := TX W
    exact hc.mono fun e w' ⟨he, hb⟩ => ⟨he, IN _ (low_trans hs hb)⟩
  have K3 : Hid (∀ W, S06a w1 W → Calls Tryd.prog 21 #[.int .u32 2147483648] W fun e w' => e = .returned (.agg #[.bool false, .int .u64 0, .int .u64 2147483648]) ∧ S06a w1 w') := by
    intro W h
    have hs : Stays (w1.alloc (.cells #[.bool false, .int .u64 0, .int .u64 16909060] 24)) W := h.2.2.2
    have hc : Calls Tryd.prog 21 #[.int .u32 2147483648] W fun e w' => e = .returned (.agg #[.bool false, .int .u64 0, .int .u64 2147483648]) ∧ Below W.heap.size W w' := v4_any 2147483648 W (by decide)
    exact hc.mono fun e w' ⟨he, hb⟩ => ⟨he, IN _ (low_trans hs hb)⟩
  have K4 : Hid (∀ W, S06a w1 W → Calls Tryd.prog 15 #[.agg #[.bool false, .int .u64 0, .int .u64 2147483648], .int .i64 0] W fun e w' => e = .returned (.int .i64 1) ∧ S06a w1 w') := by
    intro W h
    have hs : Stays (w1.alloc (.cells #[.bool false, .int .u64 0, .int .u64 16909060] 24)) W := h.2.2.2
    have hc : Calls Tryd.prog 15 #[.agg #[.bool false, .int .u64 0, .int .u64 2147483648], .int .i64 0] W fun e w' => e = .returned (.int .i64 1) ∧ Below W.heap.size W w' := BT W
    exact hc.mono fun e w' ⟨he, hb⟩ => ⟨he, IN _ (low_trans hs hb)⟩
  have K5 : Hid (∀ W, S06a w1 W → Calls Tryd.prog 13 #[.agg #[.bool false, .int .u64 0, .int .u64 16909060]] W fun e w' => e = .returned (.int .i64 32) ∧ S06a w1 w') := by
    intro W h
    have hs : Stays (w1.alloc (.cells #[.bool false, .int .u64 0, .int .u64 16909060] 24)) W := h.2.2.2
    have hc : Calls Tryd.prog 13 #[.agg #[.bool false, .int .u64 0, .int .u64 16909060]] W fun e w' => e = .returned (.int .i64 32) ∧ Below W.heap.size W w' := bits_any ⟨false, 0, 16909060⟩ W
    exact hc.mono fun e w' ⟨he, hb⟩ => ⟨he, IN _ (low_trans hs hb)⟩
  have hk0 : S06a w1 (w1.alloc (.cells #[.bool false, .int .u64 0, .int .u64 16909060] 24)) := IN _ (Below.refl _ _)
  go_region_held3 (fun w' => w'.cell? ⟨w1.heap.size, 0, none⟩ = some (.bool false) ∧ w'.cell? ⟨w1.heap.size, 1, none⟩ = some (.int .u64 0) ∧ w'.cell? ⟨w1.heap.size, 2, none⟩ = some (.int .u64 16909060) ∧ Stays (w1.alloc (.cells #[.bool false, .int .u64 0, .int .u64 16909060] 24)) w')
    (first | assumption | exact IN _ (low_drewN (‹S06a w1 _›).2.2.2 1))
    (first
      | (go_at_call 21; (with_reducible refine (K1.out _ ‹_›).mono ?_); rintro e w9 ⟨rfl, hkw⟩)
      | (go_at_call 11; (with_reducible refine (K2.out _ ‹_›).mono ?_); rintro e w9 ⟨rfl, hkw⟩)
      | (go_at_call 21; (with_reducible refine (K3.out _ ‹_›).mono ?_); rintro e w9 ⟨rfl, hkw⟩)
      | (go_at_call 15; (with_reducible refine (K4.out _ ‹_›).mono ?_); rintro e w9 ⟨rfl, hkw⟩)
      | (go_at_call 13; (with_reducible refine (K5.out _ ‹_›).mono ?_); rintro e w9 ⟨rfl, hkw⟩))
  go_wp2
  go_ret
  exact ⟨rfl, (hb1.alloc hb1.size _).trans ((‹S06a w1 _›).2.2.2.mono (by simp; exact Nat.le_succ_of_le hb1.size))⟩
end Go.Proofs.YtokbifndhkijiaaDoor
