/- Of the statements of layer 7: the example; words for subnets in boxes. -/
import Derived.Test.YtoanbaaonkckmaaDoorRef07Text
import Derived.Test.YtoanbaaonkckmaaDoorRef07Read
import Derived.Test.YtoanbaaonkckmaaDoorCidrMask
import Derived.Test.YtoanbaaonkckmaaDoorCidrDoor
import Derived.Test.YtoanbaaonkckmaaDoorDoor
import Derived.Deep.RegionHeld3
namespace Go.Proofs.YtoanbaaonkckmaaDoor
set_option maxRecDepth 100000
open Go.ChangeShapes Go.WideShapes Go.ChangeAt Go.RowKit
open Words Dec V4 V6 Ad Ci
set_option linter.unusedVariables false
theorem cell_new4 (w : World) (x y z u : Value) (t : TypeId) : (w.alloc (.cells #[x, y, z, u] t)).cell? ⟨w.heap.size, 0, none⟩ = some x ∧ (w.alloc (.cells #[x, y, z, u] t)).cell? ⟨w.heap.size, 1, none⟩ = some y ∧ (w.alloc (.cells #[x, y, z, u] t)).cell? ⟨w.heap.size, 2, none⟩ = some z ∧ (w.alloc (.cells #[x, y, z, u] t)).cell? ⟨w.heap.size, 3, none⟩ = some u := by
  refine ⟨?_, ?_, ?_, ?_⟩ <;> (rw [cell_of_row _ _ _ _ _ _ (heap_alloc_new w _)]; rfl)
theorem net_eq {n : Net} {v : Bool} {h l : Nat} {i : Int} (h1 : n.a.v6 = v) (h2 : n.a.hi = h) (h3 : n.a.lo = l) (h4 : n.n = i) : n = ⟨⟨v, h, l⟩, i⟩ := by
  obtain ⟨⟨a, b, c⟩, d⟩ := n
  simp only [] at h1 h2 h3 h4
  subst h1 h2 h3 h4; rfl
theorem same_selfA (a : Adr) : sameA a a = true := (sameA_iff a a).2 rfl
theorem same_selfN (n : Net) : sameN n n = true := (sameN_iff n n).2 rfl
abbrev S07a (w1 w2 : World) (w' : World) : Prop := w'.cell? ⟨w1.heap.size, 0, none⟩ = some (.bool false) ∧ w'.cell? ⟨w1.heap.size, 1, none⟩ = some (.int .u64 0) ∧ w'.cell? ⟨w1.heap.size, 2, none⟩ = some (.int .u64 167772160) ∧ w'.cell? ⟨w1.heap.size, 3, none⟩ = some (.int .i64 8) ∧ w'.cell? ⟨w2.heap.size, 0, none⟩ = some (.bool false) ∧ w'.cell? ⟨w2.heap.size, 1, none⟩ = some (.int .u64 0) ∧ w'.cell? ⟨w2.heap.size, 2, none⟩ = some (.int .u64 167772160) ∧ w'.cell? ⟨w2.heap.size, 3, none⟩ = some (.int .i64 8) ∧ Stays (w2.alloc (.cells #[.bool false, .int .u64 0, .int .u64 167772160, .int .i64 8] 26)) w'
set_option maxHeartbeats 2000000 in
theorem awake07_any (w : World) (hL : Lens w) : Calls Tryd.prog 5 #[] w fun e w' => e = .returned (.bool true) ∧ Below w.heap.size w w' := by
  have P1 := Lib.hid (parseN_any [49, 48, 46, 49, 46, 50, 46, 51, 47, 56])
  unfold ParseN at P1
  rw [show parseN [49, 48, 46, 49, 46, 50, 46, 51, 47, 56] = ⟨⟨false, 0, 167772160⟩, 8⟩ from net_eq (by decide +kernel) (by decide +kernel) (by decide +kernel) (by decide +kernel), show okN [49, 48, 46, 49, 46, 50, 46, 51, 47, 56] = true from by decide +kernel] at P1
  have P2 := Lib.hid (parseN_any [58, 58, 102, 102, 102, 102, 58, 49, 48, 46, 48, 46, 48, 46, 48, 47, 49, 48, 52])
  unfold ParseN at P2
  rw [show parseN [58, 58, 102, 102, 102, 102, 58, 49, 48, 46, 48, 46, 48, 46, 48, 47, 49, 48, 52] = ⟨⟨false, 0, 167772160⟩, 8⟩ from net_eq (by decide +kernel) (by decide +kernel) (by decide +kernel) (by decide +kernel), show okN [58, 58, 102, 102, 102, 102, 58, 49, 48, 46, 48, 46, 48, 46, 48, 47, 49, 48, 52] = true from by decide +kernel] at P2
  have hok : ((⟨⟨false, 0, 167772160⟩, 8⟩ : Net)).ok := ⟨⟨by decide, by decide⟩, by decide, by decide⟩
  have TX := fun W => textN_any (⟨⟨false, 0, 167772160⟩, 8⟩ : Net) W hok
  rw [show textN (⟨⟨false, 0, 167772160⟩, 8⟩ : Net) = [49, 48, 46, 48, 46, 48, 46, 48, 47, 56] from by decide +kernel] at TX
  have HY := fun W => has_any (⟨⟨false, 0, 167772160⟩, 8⟩ : Net) ⟨false, 0, 168364039⟩ W hok ⟨by decide, by decide⟩
  rw [show hasN (⟨⟨false, 0, 167772160⟩, 8⟩ : Net) ⟨false, 0, 168364039⟩ = true from by decide +kernel] at HY
  have HN := fun W => has_any (⟨⟨false, 0, 167772160⟩, 8⟩ : Net) ⟨false, 0, 185141255⟩ W hok ⟨by decide, by decide⟩
  rw [show hasN (⟨⟨false, 0, 167772160⟩, 8⟩ : Net) ⟨false, 0, 185141255⟩ = false from by decide +kernel] at HN
  have EQ : ∀ W, (binOp .eql 26 (.agg #[.bool false, .int .u64 0, .int .u64 167772160, .int .i64 8]) (.agg #[.bool false, .int .u64 0, .int .u64 167772160, .int .i64 8])).run Tryd.prog W = .ok (.bool true) W := fun W => eqNet (⟨⟨false, 0, 167772160⟩, 8⟩ : Net) (⟨⟨false, 0, 167772160⟩, 8⟩ : Net) W
  clear hok
  go_enter Tryd.func5, Tryd.ntmps5
  go_wp2_with fail
  refine (P1.out _ (by decide) hL).mono ?_
  rintro e w1 ⟨rfl, hb1⟩
  have hL1 := hL.below (hb1.alloc hb1.size (.cells #[.bool false, .int .u64 0, .int .u64 167772160, .int .i64 8] 26))
  go_wp2_with fail
  refine (P2.out _ (by decide) hL1).mono ?_
  rintro e w2 ⟨rfl, hb2⟩
  have hs12 : Stays (w1.alloc (.cells #[.bool false, .int .u64 0, .int .u64 167772160, .int .i64 8] 26)) (w2.alloc (.cells #[.bool false, .int .u64 0, .int .u64 167772160, .int .i64 8] 26)) := hb2.alloc hb2.size _
  clear P1 P2
  have IN : ∀ w', Stays (w2.alloc (.cells #[.bool false, .int .u64 0, .int .u64 167772160, .int .i64 8] 26)) w' → S07a w1 w2 w' := fun w' h => ⟨Ci.cells_left h (Ci.cells_left hs12 (cell_new4 _ _ _ _ _ _).1), Ci.cells_left h (Ci.cells_left hs12 (cell_new4 _ _ _ _ _ _).2.1), Ci.cells_left h (Ci.cells_left hs12 (cell_new4 _ _ _ _ _ _).2.2.1), Ci.cells_left h (Ci.cells_left hs12 (cell_new4 _ _ _ _ _ _).2.2.2), Ci.cells_left h (cell_new4 _ _ _ _ _ _).1, Ci.cells_left h (cell_new4 _ _ _ _ _ _).2.1, Ci.cells_left h (cell_new4 _ _ _ _ _ _).2.2.1, Ci.cells_left h (cell_new4 _ _ _ _ _ _).2.2.2, h⟩
  have K1 : Hid (∀ W, S07a w1 w2 W → Calls Tryd.prog 16 #[.agg #[.bool false, .int .u64 0, .int .u64 167772160, .int .i64 8]] W fun e w' => e = .returned (.string ⟨#[49, 48, 46, 48, 46, 48, 46, 48, 47, 56]⟩) ∧ S07a w1 w2 w') := by
    intro W h
    have hs : Stays (w2.alloc (.cells #[.bool false, .int .u64 0, .int .u64 167772160, .int .i64 8] 26)) W := h.2.2.2.2.2.2.2.2
    have hc : Calls Tryd.prog 16 #[.agg #[.bool false, .int .u64 0, .int .u64 167772160, .int .i64 8]] W fun e w' => e = .returned (.string ⟨#[49, 48, 46, 48, 46, 48, 46, 48, 47, 56]⟩) ∧ Below W.heap.size W w' := TX W
    exact hc.mono fun e w' ⟨he, hb⟩ => ⟨he, IN _ (low_trans hs hb)⟩
  have K2 : Hid (∀ W, S07a w1 w2 W → Calls Tryd.prog 19 #[.agg #[.bool false, .int .u64 0, .int .u64 167772160, .int .i64 8], .agg #[.bool false, .int .u64 0, .int .u64 168364039]] W fun e w' => e = .returned (.bool true) ∧ S07a w1 w2 w') := by
    intro W h
    have hs : Stays (w2.alloc (.cells #[.bool false, .int .u64 0, .int .u64 167772160, .int .i64 8] 26)) W := h.2.2.2.2.2.2.2.2
    have hc : Calls Tryd.prog 19 #[.agg #[.bool false, .int .u64 0, .int .u64 167772160, .int .i64 8], .agg #[.bool false, .int .u64 0, .int .u64 168364039]] W fun e w' => e = .returned (.bool true) ∧ Below W.heap.size W w' := HY W
    exact hc.mono fun e w' ⟨he, hb⟩ => ⟨he, IN _ (low_trans hs hb)⟩
  have K3 : Hid (∀ W, S07a w1 w2 W → Calls Tryd.prog 19 #[.agg #[.bool false, .int .u64 0, .int .u64 167772160, .int .i64 8], .agg #[.bool false, .int .u64 0, .int .u64 185141255]] W fun e w' => e = .returned (.bool false) ∧ S07a w1 w2 w') := by
    intro W h
    have hs : Stays (w2.alloc (.cells #[.bool false, .int .u64 0, .int .u64 167772160, .int .i64 8] 26)) W := h.2.2.2.2.2.2.2.2
    have hc : Calls Tryd.prog 19 #[.agg #[.bool false, .int .u64 0, .int .u64 167772160, .int .i64 8], .agg #[.bool false, .int .u64 0, .int .u64 185141255]] W fun e w' => e = .returned (.bool false) ∧ Below W.heap.size W w' := HN W
    exact hc.mono fun e w' ⟨he, hb⟩ => ⟨he, IN _ (low_trans hs hb)⟩
  have hk0 : S07a w1 w2 (w2.alloc (.cells #[.bool false, .int .u64 0, .int .u64 167772160, .int .i64 8] 26)) := IN _ (Below.refl _ _)
  obtain ⟨a0, a1, a2, a3, b0, b1, b2, b3, hsx⟩ := id hk0
  go_wp2_with fail
  (with_reducible refine (K1.out _ hk0).mono ?_)
  rintro e w3 ⟨rfl, hk3⟩
  obtain ⟨q0_w3, q1_w3, q2_w3, q3_w3, q4_w3, q5_w3, q6_w3, q7_w3, hs_w3⟩ := id hk3
  go_wp2_with fail
  (with_reducible refine (K2.out _ hk3).mono ?_)
  rintro e w4 ⟨rfl, hk4⟩
  obtain ⟨q0_w4, q1_w4, q2_w4, q3_w4, q4_w4, q5_w4, q6_w4, q7_w4, hs_w4⟩ := id hk4
  go_wp2_with fail
  (with_reducible refine (K3.out _ hk4).mono ?_)
  rintro e w5 ⟨rfl, hk5⟩
  obtain ⟨q0_w5, q1_w5, q2_w5, q3_w5, q4_w5, q5_w5, q6_w5, q7_w5, hs_w5⟩ := id hk5
  go_wp2_with fail
  go_ret
  exact ⟨rfl, hb1.trans ((low_trans (Below.alloc (Below.refl _ _) (Nat.le_refl _) (.cells #[.bool false, .int .u64 0, .int .u64 167772160, .int .i64 8] 26)) (low_trans hs12 hk5.2.2.2.2.2.2.2.2)).mono hb1.size)⟩
end Go.Proofs.YtoanbaaonkckmaaDoor
