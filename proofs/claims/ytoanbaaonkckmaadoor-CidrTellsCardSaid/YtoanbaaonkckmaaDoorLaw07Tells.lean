/- The first statement of layer 7, proved: any address is masked, any subnet told and written, any text read, as the document says; for all subnets, numbers and texts, under the row's listed variables. -/
import Derived.Test.YtoanbaaonkckmaaDoorLaw07
namespace Go.Proofs.YtoanbaaonkckmaaDoor
set_option maxRecDepth 100000
open Go.ChangeShapes Go.WideShapes Go.ChangeAt Go.RowKit
open Words Dec V4 V6 Ad Ci
set_option linter.unusedVariables false
abbrev S07b (n : Net) (i : Int) (l : List UInt8) (w w1 w2 w3 w4 : World) (w' : World) : Prop := w'.cell? ⟨w.heap.size, 0, none⟩ = some (.bool n.a.v6) ∧ w'.cell? ⟨w.heap.size, 1, none⟩ = some (.int .u64 n.a.hi) ∧ w'.cell? ⟨w.heap.size, 2, none⟩ = some (.int .u64 n.a.lo) ∧ w'.cell? ⟨w.heap.size, 3, none⟩ = some (.int .i64 n.n) ∧ w'.cell? ⟨w1.heap.size, 0, none⟩ = some (.bool (makeN n.a i).a.v6) ∧ w'.cell? ⟨w1.heap.size, 1, none⟩ = some (.int .u64 (makeN n.a i).a.hi) ∧ w'.cell? ⟨w1.heap.size, 2, none⟩ = some (.int .u64 (makeN n.a i).a.lo) ∧ w'.cell? ⟨w1.heap.size, 3, none⟩ = some (.int .i64 (makeN n.a i).n) ∧ w'.cell? ⟨w2.heap.size, 0, none⟩ = some (.bool (makeN n.a i).a.v6) ∧ w'.cell? ⟨w2.heap.size, 1, none⟩ = some (.int .u64 (makeN n.a i).a.hi) ∧ w'.cell? ⟨w2.heap.size, 2, none⟩ = some (.int .u64 (makeN n.a i).a.lo) ∧ w'.cell? ⟨w2.heap.size, 3, none⟩ = some (.int .i64 (makeN n.a i).n) ∧ w'.cell? ⟨w3.heap.size, 0, none⟩ = some (.bool (parseN l).a.v6) ∧ w'.cell? ⟨w3.heap.size, 1, none⟩ = some (.int .u64 (parseN l).a.hi) ∧ w'.cell? ⟨w3.heap.size, 2, none⟩ = some (.int .u64 (parseN l).a.lo) ∧ w'.cell? ⟨w3.heap.size, 3, none⟩ = some (.int .i64 (parseN l).n) ∧ w'.cell? ⟨w4.heap.size, 0, none⟩ = some (.bool (parseN l).a.v6) ∧ w'.cell? ⟨w4.heap.size, 1, none⟩ = some (.int .u64 (parseN l).a.hi) ∧ w'.cell? ⟨w4.heap.size, 2, none⟩ = some (.int .u64 (parseN l).a.lo) ∧ w'.cell? ⟨w4.heap.size, 3, none⟩ = some (.int .i64 (parseN l).n) ∧ Stays (w4.alloc (.cells #[.bool (parseN l).a.v6, .int .u64 (parseN l).a.hi, .int .u64 (parseN l).a.lo, .int .i64 (parseN l).n] 26)) w'
set_option maxHeartbeats 16000000 in
theorem cidrTells_walk (w : World) (n : Net) (hn : n.ok) (i : Int) (hi : -9223372036854775808 ≤ i ∧ i ≤ 9223372036854775807) (l : List UInt8) (hl : l.length ≤ 9223372036854775807) (hL : Lens w) :
    Calls Tryd.prog 3 #[.agg #[.bool n.a.v6, .int .u64 n.a.hi, .int .u64 n.a.lo, .int .i64 n.n], .int .i64 i, .string ⟨l.toArray⟩] w fun e w' => e = .returned (.bool true) ∧ Below w.heap.size w w' := by
  have hL0 := hL.below ((Below.refl w.heap.size w).alloc (Nat.le_refl _) (.cells #[.bool n.a.v6, .int .u64 n.a.hi, .int .u64 n.a.lo, .int .i64 n.n] 26))
  by_cases h : 1000 < l.length
  · go_enter Tryd.func3, Tryd.ntmps3
    go_wp2_with fail
    refine (awake07_any _ hL0).mono ?_
    rintro e w1 ⟨rfl, hb1⟩
    go_wp2_with fail
    go_ret
    exact ⟨rfl, ((Below.refl _ _).alloc (Nat.le_refl _) _).trans (hb1.mono (by simp))⟩
  · have EQ1 : ∀ W, (binOp .eql 24 (.agg #[.bool (maskA n.a i).v6, .int .u64 (maskA n.a i).hi, .int .u64 (maskA n.a i).lo]) (.agg #[.bool (maskA n.a i).v6, .int .u64 (maskA n.a i).hi, .int .u64 (maskA n.a i).lo])).run Tryd.prog W = .ok (.bool true) W := fun W => by rw [eqAdr, same_selfA]
    have EQ2 : ∀ W, (binOp .eql 26 (.agg #[.bool (makeN n.a i).a.v6, .int .u64 (makeN n.a i).a.hi, .int .u64 (makeN n.a i).a.lo, .int .i64 (makeN n.a i).n]) (.agg #[.bool (makeN n.a i).a.v6, .int .u64 (makeN n.a i).a.hi, .int .u64 (makeN n.a i).a.lo, .int .i64 (makeN n.a i).n])).run Tryd.prog W = .ok (.bool true) W := fun W => by rw [eqNet, same_selfN]
    have EQ3 : ∀ W, (binOp .eql 26 (.agg #[.bool (fullN n.a).a.v6, .int .u64 (fullN n.a).a.hi, .int .u64 (fullN n.a).a.lo, .int .i64 (fullN n.a).n]) (.agg #[.bool (fullN n.a).a.v6, .int .u64 (fullN n.a).a.hi, .int .u64 (fullN n.a).a.lo, .int .i64 (fullN n.a).n])).run Tryd.prog W = .ok (.bool true) W := fun W => by rw [eqNet, same_selfN]
    have EQ4 : ∀ W, (binOp .eql 26 (.agg #[.bool (parseN l).a.v6, .int .u64 (parseN l).a.hi, .int .u64 (parseN l).a.lo, .int .i64 (parseN l).n]) (.agg #[.bool (parseN l).a.v6, .int .u64 (parseN l).a.hi, .int .u64 (parseN l).a.lo, .int .i64 (parseN l).n])).run Tryd.prog W = .ok (.bool true) W := fun W => by rw [eqNet, same_selfN]
    go_enter Tryd.func3, Tryd.ntmps3
    go_wp2_with fail
    refine (make_any n.a i _ hn.1 hi.1 hi.2).mono ?_
    rintro e w1 ⟨rfl, hb1⟩
    have hu0 : Stays (w.alloc (.cells #[.bool n.a.v6, .int .u64 n.a.hi, .int .u64 n.a.lo, .int .i64 n.n] 26)) (w1.alloc (.cells #[.bool (makeN n.a i).a.v6, .int .u64 (makeN n.a i).a.hi, .int .u64 (makeN n.a i).a.lo, .int .i64 (makeN n.a i).n] 26)) := hb1.alloc hb1.size _
    obtain ⟨u0, u1, u2, u3⟩ : ((w1.alloc (.cells #[.bool (makeN n.a i).a.v6, .int .u64 (makeN n.a i).a.hi, .int .u64 (makeN n.a i).a.lo, .int .i64 (makeN n.a i).n] 26)).cell? ⟨w.heap.size, 0, none⟩ = some (.bool n.a.v6) ∧ (w1.alloc (.cells #[.bool (makeN n.a i).a.v6, .int .u64 (makeN n.a i).a.hi, .int .u64 (makeN n.a i).a.lo, .int .i64 (makeN n.a i).n] 26)).cell? ⟨w.heap.size, 1, none⟩ = some (.int .u64 n.a.hi) ∧ (w1.alloc (.cells #[.bool (makeN n.a i).a.v6, .int .u64 (makeN n.a i).a.hi, .int .u64 (makeN n.a i).a.lo, .int .i64 (makeN n.a i).n] 26)).cell? ⟨w.heap.size, 2, none⟩ = some (.int .u64 n.a.lo) ∧ (w1.alloc (.cells #[.bool (makeN n.a i).a.v6, .int .u64 (makeN n.a i).a.hi, .int .u64 (makeN n.a i).a.lo, .int .i64 (makeN n.a i).n] 26)).cell? ⟨w.heap.size, 3, none⟩ = some (.int .i64 n.n)) := ⟨Ci.cells_left hu0 (cell_new4 _ _ _ _ _ _).1, Ci.cells_left hu0 (cell_new4 _ _ _ _ _ _).2.1, Ci.cells_left hu0 (cell_new4 _ _ _ _ _ _).2.2.1, Ci.cells_left hu0 (cell_new4 _ _ _ _ _ _).2.2.2⟩
    go_wp2_with fail
    refine (rmake_any n.a i _ hn.1 hi.1 hi.2).mono ?_
    rintro e w2 ⟨rfl, hb2⟩
    have hs12 : Stays (w1.alloc (.cells #[.bool (makeN n.a i).a.v6, .int .u64 (makeN n.a i).a.hi, .int .u64 (makeN n.a i).a.lo, .int .i64 (makeN n.a i).n] 26)) (w2.alloc (.cells #[.bool (makeN n.a i).a.v6, .int .u64 (makeN n.a i).a.hi, .int .u64 (makeN n.a i).a.lo, .int .i64 (makeN n.a i).n] 26)) := hb2.alloc hb2.size _
    clear u0 u1 u2 u3
    have hL2 := hL0.below (low_trans hu0 hs12)
    go_wp2_with fail
    refine (parseN_any l _ (by omega) hL2).mono ?_
    rintro e w3 ⟨rfl, hb3⟩
    have hs23 : Stays (w2.alloc (.cells #[.bool (makeN n.a i).a.v6, .int .u64 (makeN n.a i).a.hi, .int .u64 (makeN n.a i).a.lo, .int .i64 (makeN n.a i).n] 26)) (w3.alloc (.cells #[.bool (parseN l).a.v6, .int .u64 (parseN l).a.hi, .int .u64 (parseN l).a.lo, .int .i64 (parseN l).n] 26)) := hb3.alloc hb3.size _
    go_wp2_with fail
    refine (rparseN_any l _ (by omega)).mono ?_
    rintro e w4 ⟨rfl, hb4⟩
    have hs3 : Stays (w3.alloc (.cells #[.bool (parseN l).a.v6, .int .u64 (parseN l).a.hi, .int .u64 (parseN l).a.lo, .int .i64 (parseN l).n] 26)) (w4.alloc (.cells #[.bool (parseN l).a.v6, .int .u64 (parseN l).a.hi, .int .u64 (parseN l).a.lo, .int .i64 (parseN l).n] 26)) := hb4.alloc hb4.size _
    have hs2 : Stays (w2.alloc (.cells #[.bool (makeN n.a i).a.v6, .int .u64 (makeN n.a i).a.hi, .int .u64 (makeN n.a i).a.lo, .int .i64 (makeN n.a i).n] 26)) (w4.alloc (.cells #[.bool (parseN l).a.v6, .int .u64 (parseN l).a.hi, .int .u64 (parseN l).a.lo, .int .i64 (parseN l).n] 26)) := low_trans hs23 hs3
    have hs1 : Stays (w1.alloc (.cells #[.bool (makeN n.a i).a.v6, .int .u64 (makeN n.a i).a.hi, .int .u64 (makeN n.a i).a.lo, .int .i64 (makeN n.a i).n] 26)) (w4.alloc (.cells #[.bool (parseN l).a.v6, .int .u64 (parseN l).a.hi, .int .u64 (parseN l).a.lo, .int .i64 (parseN l).n] 26)) := low_trans hs12 hs2
    have hs0 : Stays (w.alloc (.cells #[.bool n.a.v6, .int .u64 n.a.hi, .int .u64 n.a.lo, .int .i64 n.n] 26)) (w4.alloc (.cells #[.bool (parseN l).a.v6, .int .u64 (parseN l).a.hi, .int .u64 (parseN l).a.lo, .int .i64 (parseN l).n] 26)) := low_trans hu0 hs1
    have hL4 := hL2.below hs2
    clear hs12 hs23 hu0 hb1 hb2 hb3 hb4
    go_wp2_with fail
    have IN : ∀ w', Stays (w4.alloc (.cells #[.bool (parseN l).a.v6, .int .u64 (parseN l).a.hi, .int .u64 (parseN l).a.lo, .int .i64 (parseN l).n] 26)) w' → S07b n i l w w1 w2 w3 w4 w' := fun w' h => ⟨Ci.cells_left h (Ci.cells_left hs0 (cell_new4 _ _ _ _ _ _).1), Ci.cells_left h (Ci.cells_left hs0 (cell_new4 _ _ _ _ _ _).2.1), Ci.cells_left h (Ci.cells_left hs0 (cell_new4 _ _ _ _ _ _).2.2.1), Ci.cells_left h (Ci.cells_left hs0 (cell_new4 _ _ _ _ _ _).2.2.2), Ci.cells_left h (Ci.cells_left hs1 (cell_new4 _ _ _ _ _ _).1), Ci.cells_left h (Ci.cells_left hs1 (cell_new4 _ _ _ _ _ _).2.1), Ci.cells_left h (Ci.cells_left hs1 (cell_new4 _ _ _ _ _ _).2.2.1), Ci.cells_left h (Ci.cells_left hs1 (cell_new4 _ _ _ _ _ _).2.2.2), Ci.cells_left h (Ci.cells_left hs2 (cell_new4 _ _ _ _ _ _).1), Ci.cells_left h (Ci.cells_left hs2 (cell_new4 _ _ _ _ _ _).2.1), Ci.cells_left h (Ci.cells_left hs2 (cell_new4 _ _ _ _ _ _).2.2.1), Ci.cells_left h (Ci.cells_left hs2 (cell_new4 _ _ _ _ _ _).2.2.2), Ci.cells_left h (Ci.cells_left hs3 (cell_new4 _ _ _ _ _ _).1), Ci.cells_left h (Ci.cells_left hs3 (cell_new4 _ _ _ _ _ _).2.1), Ci.cells_left h (Ci.cells_left hs3 (cell_new4 _ _ _ _ _ _).2.2.1), Ci.cells_left h (Ci.cells_left hs3 (cell_new4 _ _ _ _ _ _).2.2.2), Ci.cells_left h (cell_new4 _ _ _ _ _ _).1, Ci.cells_left h (cell_new4 _ _ _ _ _ _).2.1, Ci.cells_left h (cell_new4 _ _ _ _ _ _).2.2.1, Ci.cells_left h (cell_new4 _ _ _ _ _ _).2.2.2, h⟩
    have K1 : Hid (∀ W, S07b n i l w w1 w2 w3 w4 W → Calls Tryd.prog 10 #[.agg #[.bool n.a.v6, .int .u64 n.a.hi, .int .u64 n.a.lo, .int .i64 n.n]] W fun e w' => e = .returned (.bool (rightN n)) ∧ S07b n i l w w1 w2 w3 w4 w') := by
      intro W h
      have hs : Stays (w4.alloc (.cells #[.bool (parseN l).a.v6, .int .u64 (parseN l).a.hi, .int .u64 (parseN l).a.lo, .int .i64 (parseN l).n] 26)) W := h.2.2.2.2.2.2.2.2.2.2.2.2.2.2.2.2.2.2.2.2
      have hc : Calls Tryd.prog 10 #[.agg #[.bool n.a.v6, .int .u64 n.a.hi, .int .u64 n.a.lo, .int .i64 n.n]] W fun e w' => e = .returned (.bool (rightN n)) ∧ Below W.heap.size W w' := rightN_any n W hn
      exact hc.mono fun e w' ⟨he, hb⟩ => ⟨he, IN _ (low_trans hs hb)⟩
    have K2 : Hid (∀ W, S07b n i l w w1 w2 w3 w4 W → Calls Tryd.prog 11 #[.agg #[.bool n.a.v6, .int .u64 n.a.hi, .int .u64 n.a.lo, .int .i64 n.n]] W fun e w' => e = .returned (.bool (rightN n)) ∧ S07b n i l w w1 w2 w3 w4 w') := by
      intro W h
      have hs : Stays (w4.alloc (.cells #[.bool (parseN l).a.v6, .int .u64 (parseN l).a.hi, .int .u64 (parseN l).a.lo, .int .i64 (parseN l).n] 26)) W := h.2.2.2.2.2.2.2.2.2.2.2.2.2.2.2.2.2.2.2.2
      have hc : Calls Tryd.prog 11 #[.agg #[.bool n.a.v6, .int .u64 n.a.hi, .int .u64 n.a.lo, .int .i64 n.n]] W fun e w' => e = .returned (.bool (rightN n)) ∧ Below W.heap.size W w' := rrightN_any n W hn
      exact hc.mono fun e w' ⟨he, hb⟩ => ⟨he, IN _ (low_trans hs hb)⟩
    have K3 : Hid (∀ W, S07b n i l w w1 w2 w3 w4 W → Calls Tryd.prog 12 #[.agg #[.bool n.a.v6, .int .u64 n.a.hi, .int .u64 n.a.lo], .int .i64 i] W fun e w' => e = .returned (.agg #[.bool (maskA n.a i).v6, .int .u64 (maskA n.a i).hi, .int .u64 (maskA n.a i).lo]) ∧ S07b n i l w w1 w2 w3 w4 w') := by
      intro W h
      have hs : Stays (w4.alloc (.cells #[.bool (parseN l).a.v6, .int .u64 (parseN l).a.hi, .int .u64 (parseN l).a.lo, .int .i64 (parseN l).n] 26)) W := h.2.2.2.2.2.2.2.2.2.2.2.2.2.2.2.2.2.2.2.2
      have hc : Calls Tryd.prog 12 #[.agg #[.bool n.a.v6, .int .u64 n.a.hi, .int .u64 n.a.lo], .int .i64 i] W fun e w' => e = .returned (.agg #[.bool (maskA n.a i).v6, .int .u64 (maskA n.a i).hi, .int .u64 (maskA n.a i).lo]) ∧ Below W.heap.size W w' := mask_any n.a i W hn.1 hi.1 hi.2
      exact hc.mono fun e w' ⟨he, hb⟩ => ⟨he, IN _ (low_trans hs hb)⟩
    have K4 : Hid (∀ W, S07b n i l w w1 w2 w3 w4 W → Calls Tryd.prog 13 #[.agg #[.bool n.a.v6, .int .u64 n.a.hi, .int .u64 n.a.lo], .int .i64 i] W fun e w' => e = .returned (.agg #[.bool (maskA n.a i).v6, .int .u64 (maskA n.a i).hi, .int .u64 (maskA n.a i).lo]) ∧ S07b n i l w w1 w2 w3 w4 w') := by
      intro W h
      have hs : Stays (w4.alloc (.cells #[.bool (parseN l).a.v6, .int .u64 (parseN l).a.hi, .int .u64 (parseN l).a.lo, .int .i64 (parseN l).n] 26)) W := h.2.2.2.2.2.2.2.2.2.2.2.2.2.2.2.2.2.2.2.2
      have hc : Calls Tryd.prog 13 #[.agg #[.bool n.a.v6, .int .u64 n.a.hi, .int .u64 n.a.lo], .int .i64 i] W fun e w' => e = .returned (.agg #[.bool (maskA n.a i).v6, .int .u64 (maskA n.a i).hi, .int .u64 (maskA n.a i).lo]) ∧ Below W.heap.size W w' := rmask_any n.a i W hn.1 hi.1 hi.2
      exact hc.mono fun e w' ⟨he, hb⟩ => ⟨he, IN _ (low_trans hs hb)⟩
    have K5 : Hid (∀ W, S07b n i l w w1 w2 w3 w4 W → Calls Tryd.prog 14 #[.agg #[.bool n.a.v6, .int .u64 n.a.hi, .int .u64 n.a.lo]] W fun e w' => e = .returned (.agg #[.bool (fullN n.a).a.v6, .int .u64 (fullN n.a).a.hi, .int .u64 (fullN n.a).a.lo, .int .i64 (fullN n.a).n]) ∧ S07b n i l w w1 w2 w3 w4 w') := by
      intro W h
      have hs : Stays (w4.alloc (.cells #[.bool (parseN l).a.v6, .int .u64 (parseN l).a.hi, .int .u64 (parseN l).a.lo, .int .i64 (parseN l).n] 26)) W := h.2.2.2.2.2.2.2.2.2.2.2.2.2.2.2.2.2.2.2.2
      have hc : Calls Tryd.prog 14 #[.agg #[.bool n.a.v6, .int .u64 n.a.hi, .int .u64 n.a.lo]] W fun e w' => e = .returned (.agg #[.bool (fullN n.a).a.v6, .int .u64 (fullN n.a).a.hi, .int .u64 (fullN n.a).a.lo, .int .i64 (fullN n.a).n]) ∧ Below W.heap.size W w' := full_any n.a W hn.1
      exact hc.mono fun e w' ⟨he, hb⟩ => ⟨he, IN _ (low_trans hs hb)⟩
    have K6 : Hid (∀ W, S07b n i l w w1 w2 w3 w4 W → Calls Tryd.prog 15 #[.agg #[.bool n.a.v6, .int .u64 n.a.hi, .int .u64 n.a.lo]] W fun e w' => e = .returned (.agg #[.bool (fullN n.a).a.v6, .int .u64 (fullN n.a).a.hi, .int .u64 (fullN n.a).a.lo, .int .i64 (fullN n.a).n]) ∧ S07b n i l w w1 w2 w3 w4 w') := by
      intro W h
      have hs : Stays (w4.alloc (.cells #[.bool (parseN l).a.v6, .int .u64 (parseN l).a.hi, .int .u64 (parseN l).a.lo, .int .i64 (parseN l).n] 26)) W := h.2.2.2.2.2.2.2.2.2.2.2.2.2.2.2.2.2.2.2.2
      have hc : Calls Tryd.prog 15 #[.agg #[.bool n.a.v6, .int .u64 n.a.hi, .int .u64 n.a.lo]] W fun e w' => e = .returned (.agg #[.bool (fullN n.a).a.v6, .int .u64 (fullN n.a).a.hi, .int .u64 (fullN n.a).a.lo, .int .i64 (fullN n.a).n]) ∧ Below W.heap.size W w' := rfull_any n.a W hn.1
      exact hc.mono fun e w' ⟨he, hb⟩ => ⟨he, IN _ (low_trans hs hb)⟩
    have K7 : Hid (∀ W, S07b n i l w w1 w2 w3 w4 W → Calls Tryd.prog 16 #[.agg #[.bool n.a.v6, .int .u64 n.a.hi, .int .u64 n.a.lo, .int .i64 n.n]] W fun e w' => e = .returned (.string ⟨(textN n).toArray⟩) ∧ S07b n i l w w1 w2 w3 w4 w') := by
      intro W h
      have hs : Stays (w4.alloc (.cells #[.bool (parseN l).a.v6, .int .u64 (parseN l).a.hi, .int .u64 (parseN l).a.lo, .int .i64 (parseN l).n] 26)) W := h.2.2.2.2.2.2.2.2.2.2.2.2.2.2.2.2.2.2.2.2
      have hc : Calls Tryd.prog 16 #[.agg #[.bool n.a.v6, .int .u64 n.a.hi, .int .u64 n.a.lo, .int .i64 n.n]] W fun e w' => e = .returned (.string ⟨(textN n).toArray⟩) ∧ Below W.heap.size W w' := textN_any n W hn
      exact hc.mono fun e w' ⟨he, hb⟩ => ⟨he, IN _ (low_trans hs hb)⟩
    have K8 : Hid (∀ W, S07b n i l w w1 w2 w3 w4 W → Calls Tryd.prog 17 #[.agg #[.bool n.a.v6, .int .u64 n.a.hi, .int .u64 n.a.lo, .int .i64 n.n]] W fun e w' => e = .returned (.string ⟨(textN n).toArray⟩) ∧ S07b n i l w w1 w2 w3 w4 w') := by
      intro W h
      have hs : Stays (w4.alloc (.cells #[.bool (parseN l).a.v6, .int .u64 (parseN l).a.hi, .int .u64 (parseN l).a.lo, .int .i64 (parseN l).n] 26)) W := h.2.2.2.2.2.2.2.2.2.2.2.2.2.2.2.2.2.2.2.2
      have hc : Calls Tryd.prog 17 #[.agg #[.bool n.a.v6, .int .u64 n.a.hi, .int .u64 n.a.lo, .int .i64 n.n]] W fun e w' => e = .returned (.string ⟨(textN n).toArray⟩) ∧ Below W.heap.size W w' := rtextN_any n W hn
      exact hc.mono fun e w' ⟨he, hb⟩ => ⟨he, IN _ (low_trans hs hb)⟩
    have K9 : Hid (∀ W, S07b n i l w w1 w2 w3 w4 W → Calls Tryd.prog 5 #[] W fun e w' => e = .returned (.bool true) ∧ S07b n i l w w1 w2 w3 w4 w') := by
      intro W h
      have hs : Stays (w4.alloc (.cells #[.bool (parseN l).a.v6, .int .u64 (parseN l).a.hi, .int .u64 (parseN l).a.lo, .int .i64 (parseN l).n] 26)) W := h.2.2.2.2.2.2.2.2.2.2.2.2.2.2.2.2.2.2.2.2
      have hc : Calls Tryd.prog 5 #[] W fun e w' => e = .returned (.bool true) ∧ Below W.heap.size W w' := awake07_any W (hL4.below hs)
      exact hc.mono fun e w' ⟨he, hb⟩ => ⟨he, IN _ (low_trans hs hb)⟩
    have hk0 : S07b n i l w w1 w2 w3 w4 (w4.alloc (.cells #[.bool (parseN l).a.v6, .int .u64 (parseN l).a.hi, .int .u64 (parseN l).a.lo, .int .i64 (parseN l).n] 26)) := IN _ (Below.refl _ _)
    go_region_held3 (fun w' => w'.cell? ⟨w.heap.size, 0, none⟩ = some (.bool n.a.v6) ∧ w'.cell? ⟨w.heap.size, 1, none⟩ = some (.int .u64 n.a.hi) ∧ w'.cell? ⟨w.heap.size, 2, none⟩ = some (.int .u64 n.a.lo) ∧ w'.cell? ⟨w.heap.size, 3, none⟩ = some (.int .i64 n.n) ∧ w'.cell? ⟨w1.heap.size, 0, none⟩ = some (.bool (makeN n.a i).a.v6) ∧ w'.cell? ⟨w1.heap.size, 1, none⟩ = some (.int .u64 (makeN n.a i).a.hi) ∧ w'.cell? ⟨w1.heap.size, 2, none⟩ = some (.int .u64 (makeN n.a i).a.lo) ∧ w'.cell? ⟨w1.heap.size, 3, none⟩ = some (.int .i64 (makeN n.a i).n) ∧ w'.cell? ⟨w2.heap.size, 0, none⟩ = some (.bool (makeN n.a i).a.v6) ∧ w'.cell? ⟨w2.heap.size, 1, none⟩ = some (.int .u64 (makeN n.a i).a.hi) ∧ w'.cell? ⟨w2.heap.size, 2, none⟩ = some (.int .u64 (makeN n.a i).a.lo) ∧ w'.cell? ⟨w2.heap.size, 3, none⟩ = some (.int .i64 (makeN n.a i).n) ∧ w'.cell? ⟨w3.heap.size, 0, none⟩ = some (.bool (parseN l).a.v6) ∧ w'.cell? ⟨w3.heap.size, 1, none⟩ = some (.int .u64 (parseN l).a.hi) ∧ w'.cell? ⟨w3.heap.size, 2, none⟩ = some (.int .u64 (parseN l).a.lo) ∧ w'.cell? ⟨w3.heap.size, 3, none⟩ = some (.int .i64 (parseN l).n) ∧ w'.cell? ⟨w4.heap.size, 0, none⟩ = some (.bool (parseN l).a.v6) ∧ w'.cell? ⟨w4.heap.size, 1, none⟩ = some (.int .u64 (parseN l).a.hi) ∧ w'.cell? ⟨w4.heap.size, 2, none⟩ = some (.int .u64 (parseN l).a.lo) ∧ w'.cell? ⟨w4.heap.size, 3, none⟩ = some (.int .i64 (parseN l).n) ∧ Stays (w4.alloc (.cells #[.bool (parseN l).a.v6, .int .u64 (parseN l).a.hi, .int .u64 (parseN l).a.lo, .int .i64 (parseN l).n] 26)) w')
      (first | assumption | exact IN _ (low_drewN (‹S07b n i l w w1 w2 w3 w4 _›).2.2.2.2.2.2.2.2.2.2.2.2.2.2.2.2.2.2.2.2 1))
      (first
        | (go_at_call 10; (with_reducible refine (K1.out _ ‹_›).mono ?_); rintro e w9 ⟨rfl, hkw⟩)
        | (go_at_call 11; (with_reducible refine (K2.out _ ‹_›).mono ?_); rintro e w9 ⟨rfl, hkw⟩)
        | (go_at_call 12; (with_reducible refine (K3.out _ ‹_›).mono ?_); rintro e w9 ⟨rfl, hkw⟩)
        | (go_at_call 13; (with_reducible refine (K4.out _ ‹_›).mono ?_); rintro e w9 ⟨rfl, hkw⟩)
        | (go_at_call 14; (with_reducible refine (K5.out _ ‹_›).mono ?_); rintro e w9 ⟨rfl, hkw⟩)
        | (go_at_call 15; (with_reducible refine (K6.out _ ‹_›).mono ?_); rintro e w9 ⟨rfl, hkw⟩)
        | (go_at_call 16; (with_reducible refine (K7.out _ ‹_›).mono ?_); rintro e w9 ⟨rfl, hkw⟩)
        | (go_at_call 17; (with_reducible refine (K8.out _ ‹_›).mono ?_); rintro e w9 ⟨rfl, hkw⟩)
        | (go_at_call 5; (with_reducible refine (K9.out _ ‹_›).mono ?_); rintro e w9 ⟨rfl, hkw⟩))
    go_wp2
    go_ret
    exact ⟨rfl, ((Below.refl _ _).alloc (Nat.le_refl _) _).trans ((low_trans hs0 (‹S07b n i l w w1 w2 w3 w4 _›).2.2.2.2.2.2.2.2.2.2.2.2.2.2.2.2.2.2.2.2).mono (by simp))⟩
namespace cidrTells
theorem contract (H : Type) (enc : TypeId × Value → H) (W : World) (base : Nat) (args : Array Value) (ds gs : List (DataW H)) (before : List MemPlace)
    (hval0 : ∀ (j : Nat) t v, Tryd.f3.params[j]? = some t → args[j]? = some v → Value.okWide Tryd.prog W .any base t v)
    (hW : DataW.Whole enc Tryd.prog Tryd.f3.params.toList Rows.cidrTellsSpec.vars false W args.toList ds gs before) (hSh : W.ShapedOpen Tryd.prog) :
    Calls Tryd.prog 3 args W fun e W' => ∃ v, e = .returned v ∧ Rows.cidrTellsSpec.post enc Tryd.prog Tryd.f3 false true false false W args v W' := by
  have hval : ∀ (j : Nat) t v, Tryd.f3.params[j]? = some t → args[j]? = some v → Value.okWide Tryd.prog W .any base t v := hval0
  have hW' := hW
  obtain ⟨p, q, hA0, hV, _, _, _⟩ := hW
  have hA : DataW.TrodAll enc Tryd.prog W 0 (fun _ => true) true Tryd.f3.params.toList args.toList ds p := hA0
  rw [Tryd.params3] at hA hval
  obtain ⟨v0, vs0, d0, ds0, p0, q0, hargs, rfl, rfl, h0, r0⟩ := trodAll_cons hA
  obtain ⟨v1, vs1, d1, ds1, p1, q1, rfl, rfl, rfl, h1, r1⟩ := trodAll_cons r0
  obtain ⟨v2, vs2, d2, ds2, p2, q2, rfl, rfl, rfl, h2, r2⟩ := trodAll_cons r1
  obtain ⟨rfl, rfl, rfl⟩ := trodAll_nil r2
  obtain rfl : args = #[v0, v1, v2] := by cases args; simp_all
  obtain ⟨rfl, rfl⟩ := trodVars_none hV
  obtain ⟨a0, z0, rfl, rfl, rfl⟩ := open_net (ta := 24) (tb := 4) (tu := 22) (ti := 3) Tryd.underlying26 rfl rfl Tryd.underlying24 (by kernel_rfl) rfl rfl (by kernel_rfl) (by kernel_rfl) (by kernel_rfl) rfl rfl rfl Tryd.underlying4 Tryd.underlying22 Tryd.underlying3 (hval 0 26 v0 rfl rfl) h0
  obtain ⟨b1, rfl, rfl, rfl, w1⟩ := open_int Tryd.underlying3 (hval 1 3 v1 rfl rfl) h1
  obtain ⟨b2, rfl, rfl, rfl, w2⟩ := ChangeMaps.open_string Tryd.underlying9 (hval 2 9 v2 rfl rfl) h2
  obtain ⟨a2, rfl⟩ : ∃ a : List UInt8, b2 = ⟨a.toArray⟩ := ⟨b2.data.toList, (str_same _).symm⟩
  have z2 : a2.length ≤ 9223372036854775807 := by unfold maxLen at w2; rw [← len_size, str_back] at w2; exact w2
  clear hA0 hval0
  refine (cidrTells_walk W a0 z0 b1 (wf64 w1) a2 (by omega) (V6.Lens.start hSh)).mono fun e W' ⟨he, hg⟩ => ?_
  subst he
  exact ⟨_, rfl, post_law laidOut (by kernel_rfl) (by kernel_rfl) Tryd.underlying4 rfl hW' rfl rfl rfl hg⟩
set_option maxRecDepth 100000 in
theorem lifted (os : Os) (started : os.Started) (H : Type) (enc : TypeId × Value → H) (F : Stop.Interp) :
    ReturnsInHanded {} Tryd.checked os 3 .any ((OpenSpec.ofChange Rows.cidrTellsSpec).preRow enc Tryd.prog Tryd.f3 Rows.cidrTellsRow.domain false Rows.cidrTellsRow.laid) (((OpenSpec.ofChange Rows.cidrTellsSpec).at F).post enc Tryd.prog Tryd.f3 false true false false) := by
  refine returnsInHanded_of_row (C := Tryd.checked) (s := OpenSpec.ofChange Rows.cidrTellsSpec) own started (by kernel_rfl) Tryd.func3
    (witness_laid (enc := enc) (C := Tryd.checked) (s := OpenSpec.ofChange Rows.cidrTellsSpec) (laid := Rows.cidrTellsRow.laid) #[.agg #[.bool false, .int .u64 0, .int .u64 0, .int .i64 0], .int .i64 0, .string ByteArray.empty] (World.shaped_of_ZipB (by kernel_rfl) (by kernel_rfl)) (by kernel_rfl)
      (OpenSpec.preRow_of_cond 8 (x := ([.agg [.agg [.lit (.bool false), .lit (.int .u64 0), .lit (.int .u64 0)], .lit (.int .i64 0)], .lit (.int .i64 0), .lit (.string [])], [], [])) (by kernel_rfl) (by kernel_rfl) (fun k hk => by cases hk) (by kernel_rfl)
        (by rw [MakeChecks.laidMetH_plain _ _ _ (by kernel_rfl)]; exact laidMet_laidAll _ (by kernel_rfl) (by kernel_rfl)))) ?_
  intro W base args ds gs before hval hW _ hcond _ _ hsh _
  exact contract H enc W base args ds gs before hval hW hsh
theorem over : Rows.cidrTellsRow.holds Tryd.pinned (OpenSpec.ofChange Rows.cidrTellsSpec) :=
  OpenClaim.holds_of_cond 3 Tryd.f3 rfl rfl rfl rfl rfl rfl rfl ⟨rfl, rfl, rfl, rfl, rfl⟩ rfl rfl rfl rfl rfl (by kernel_rfl) Tryd.func3 (by kernel_rfl)
    (of_decide_eq_true (by kernel_rfl)) (by unfold Func.isWrapper; first | (rw [if_pos (by decide +kernel)]; kernel_rfl) | (rw [if_neg (by decide +kernel)]; exact ⟨rfl, rfl⟩))
    (fun os started H enc _ F => by rw [OpenClaim.pre_eq_preRow]; exact lifted os started H enc F)
/-- ████ THE STATEMENT ████ -/
theorem proved : Rows.CidrTellsCardSaid :=
  Claim7.holds_tied_plain_at .later [] Rows.cidrTellsCard.laidKinds Rows.cidrTellsCard.laidTests Rows.cidrTellsCard.stood.harness Rows.cidrTellsCard.stood.looks over (fun _ h => by cases h) (by kernel_rfl) (fun _ h => by cases h) cidrTells_row_tie rfl ⟨rfl, rfl⟩ (by kernel_rfl) rfl
    (fun f fn hf hfn => by
      obtain rfl : f = 3 := Option.some.inj ((show Tryd.prog.funcNamed Rows.cidrTellsRow.func = some 3 by kernel_rfl).symm.trans hf) |>.symm
      obtain rfl : fn = Tryd.f3 := (Option.some.inj (Tryd.func3.symm.trans hfn)).symm
      exact ⟨by kernel_rfl, no_standin (by kernel_rfl)⟩)
    (by kernel_rfl)
end cidrTells
end Go.Proofs.YtoanbaaonkckmaaDoor
