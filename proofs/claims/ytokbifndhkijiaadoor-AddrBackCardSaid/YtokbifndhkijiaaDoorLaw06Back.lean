/- The second statement of layer 6, proved: each address that is right is read of its text, and its bits tell it; for all addresses and all texts, under the row's listed variables. -/
import Derived.Test.YtokbifndhkijiaaDoorLaw06Yes
namespace Go.Proofs.YtokbifndhkijiaaDoor
set_option maxRecDepth 100000
open Go.ChangeShapes Go.WideShapes Go.ChangeAt Go.RowKit
open Words Dec V4 V6 Ad
set_option linter.unusedVariables false
set_option maxHeartbeats 16000000 in
theorem back_no (w : World) (a : Adr) (ha : a.ok) (b : Adr) (hb : b.ok) (l : List UInt8) (hl : l.length ≤ 1000) (hL : Lens w) (hr : rightA a = false) :
    Calls Tryd.prog 4 #[.agg #[.bool a.v6, .int .u64 a.hi, .int .u64 a.lo], .agg #[.bool b.v6, .int .u64 b.hi, .int .u64 b.lo], .string ⟨l.toArray⟩] w fun e w' => e = .returned (.bool true) ∧ Below w.heap.size w w' := by
  have h10 : ¬ 1000 < l.length := by omega
  have hB : Below w.heap.size w ((w.alloc (.cells #[.bool a.v6, .int .u64 a.hi, .int .u64 a.lo] 24)).alloc (.cells #[.bool b.v6, .int .u64 b.hi, .int .u64 b.lo] 24)) := two_low _ _ _
  have hLS := hL.below hB
  have TN := two_new w a b 24
  have TL := textA_len a
  have T1 := Lib.hid (fun W => textA_any a W ha)
  have P1 := Lib.hid (parseA_any (textA a))
  unfold ParseA at P1
  rw [show okA (textA a) = false from by rw [textA_no hr]; exact okA_nil] at P1
  go_enter Tryd.func4, Tryd.ntmps4
  go_wp2_with fail
  (with_reducible refine (T1.out _).mono ?_)
  rintro e w1 ⟨rfl, hb1⟩
  go_wp2_with fail
  (with_reducible refine (P1.out _ (by omega) (hLS.below hb1)).mono ?_)
  rintro e w2 ⟨rfl, hb2⟩
  have hs03 : Stays ((w.alloc (.cells #[.bool a.v6, .int .u64 a.hi, .int .u64 a.lo] 24)).alloc (.cells #[.bool b.v6, .int .u64 b.hi, .int .u64 b.lo] 24)) (w2.alloc (.cells #[.bool (parseA (textA a)).v6, .int .u64 (parseA (textA a)).hi, .int .u64 (parseA (textA a)).lo] 24)) := (low_trans hb1 hb2).alloc (low_trans hb1 hb2).size _
  have hL3 := hLS.below hs03
  have IN : ∀ w', Stays (w2.alloc (.cells #[.bool (parseA (textA a)).v6, .int .u64 (parseA (textA a)).hi, .int .u64 (parseA (textA a)).lo] 24)) w' → S06d a b w w2 w' := fun w' h => ⟨cells_left h (cells_left hs03 TN.1.1), cells_left h (cells_left hs03 TN.1.2.1), cells_left h (cells_left hs03 TN.1.2.2), cells_left h (cells_left hs03 TN.2.1), cells_left h (cells_left hs03 TN.2.2.1), cells_left h (cells_left hs03 TN.2.2.2), cells_left h (cell_new _ _ _ _ _).1, cells_left h (cell_new _ _ _ _ _).2.1, cells_left h (cell_new _ _ _ _ _).2.2, h⟩
  have K1 : Hid (∀ W, S06d a b w w2 W → Calls Tryd.prog 9 #[.agg #[.bool a.v6, .int .u64 a.hi, .int .u64 a.lo]] W fun e w' => e = .returned (.bool (rightA a)) ∧ S06d a b w w2 w') := by
    intro W h
    have hs : Stays (w2.alloc (.cells #[.bool (parseA (textA a)).v6, .int .u64 (parseA (textA a)).hi, .int .u64 (parseA (textA a)).lo] 24)) W := h.2.2.2.2.2.2.2.2.2
    have hc : Calls Tryd.prog 9 #[.agg #[.bool a.v6, .int .u64 a.hi, .int .u64 a.lo]] W fun e w' => e = .returned (.bool (rightA a)) ∧ Below W.heap.size W w' := right_any a W ha
    exact hc.mono fun e w' ⟨he, hb⟩ => ⟨he, IN _ (low_trans hs hb)⟩
  have K2 : Hid (∀ W, S06d a b w w2 W → Calls Tryd.prog 11 #[.agg #[.bool a.v6, .int .u64 a.hi, .int .u64 a.lo]] W fun e w' => e = .returned (.string ⟨(textA a).toArray⟩) ∧ S06d a b w w2 w') := by
    intro W h
    have hs : Stays (w2.alloc (.cells #[.bool (parseA (textA a)).v6, .int .u64 (parseA (textA a)).hi, .int .u64 (parseA (textA a)).lo] 24)) W := h.2.2.2.2.2.2.2.2.2
    have hc : Calls Tryd.prog 11 #[.agg #[.bool a.v6, .int .u64 a.hi, .int .u64 a.lo]] W fun e w' => e = .returned (.string ⟨(textA a).toArray⟩) ∧ Below W.heap.size W w' := textA_any a W ha
    exact hc.mono fun e w' ⟨he, hb⟩ => ⟨he, IN _ (low_trans hs hb)⟩
  have K3 : Hid (∀ W, S06d a b w w2 W → Calls Tryd.prog 7 #[.string ⟨l.toArray⟩] W fun e w' => e = .returned (.tuple #[.agg #[.bool (parseA l).v6, .int .u64 (parseA l).hi, .int .u64 (parseA l).lo], .bool (okA l)]) ∧ S06d a b w w2 w') := by
    intro W h
    have hs : Stays (w2.alloc (.cells #[.bool (parseA (textA a)).v6, .int .u64 (parseA (textA a)).hi, .int .u64 (parseA (textA a)).lo] 24)) W := h.2.2.2.2.2.2.2.2.2
    have hc : Calls Tryd.prog 7 #[.string ⟨l.toArray⟩] W fun e w' => e = .returned (.tuple #[.agg #[.bool (parseA l).v6, .int .u64 (parseA l).hi, .int .u64 (parseA l).lo], .bool (okA l)]) ∧ Below W.heap.size W w' := parseA_any l W (by omega) (hL3.below hs)
    exact hc.mono fun e w' ⟨he, hb⟩ => ⟨he, IN _ (low_trans hs hb)⟩
  have hk0 : S06d a b w w2 (w2.alloc (.cells #[.bool (parseA (textA a)).v6, .int .u64 (parseA (textA a)).hi, .int .u64 (parseA (textA a)).lo] 24)) := IN _ (Below.refl _ _)
  obtain ⟨k0_0, k0_1, k0_2, k0_3, k0_4, k0_5, k0_6, k0_7, k0_8, hs0⟩ := id hk0
  rw [hr] at K1
  rw [textA_no hr] at K2
  go_wp2_with fail
  (with_reducible refine (K1.out _ hk0).mono ?_)
  rintro e w3 ⟨rfl, hS3⟩
  obtain ⟨k3_0, k3_1, k3_2, k3_3, k3_4, k3_5, k3_6, k3_7, k3_8, hs3⟩ := id hS3
  go_wp2_with fail
  (with_reducible refine (K1.out _ hS3).mono ?_)
  rintro e w4 ⟨rfl, hS4⟩
  obtain ⟨k4_0, k4_1, k4_2, k4_3, k4_4, k4_5, k4_6, k4_7, k4_8, hs4⟩ := id hS4
  go_wp2_with fail
  (with_reducible refine (K2.out _ hS4).mono ?_)
  rintro e w4b ⟨rfl, hS4b⟩
  obtain ⟨k44_0, k44_1, k44_2, k44_3, k44_4, k44_5, k44_6, k44_7, k44_8, hs44⟩ := id hS4b
  go_wp2_with fail
  cases hok : okA l
  · rw [hok] at K3
    have NZ : ∀ W, (binOp .neq 24 (.agg #[.bool (parseA l).v6, .int .u64 (parseA l).hi, .int .u64 (parseA l).lo]) (.agg #[.bool false, .int .u64 0, .int .u64 0])).run Tryd.prog W = .ok (.bool false) W := by
      intro W
      have h := neqAdr (parseA l) ⟨false, 0, 0⟩ W
      rw [show sameA (parseA l) ⟨false, 0, 0⟩ = true from by rw [parseA_no hok]; rfl] at h
      exact h
    (with_reducible refine (K3.out _ hS4b).mono ?_)
    rintro e w5 ⟨rfl, hS5⟩
    have hs06 : Stays ((w.alloc (.cells #[.bool a.v6, .int .u64 a.hi, .int .u64 a.lo] 24)).alloc (.cells #[.bool b.v6, .int .u64 b.hi, .int .u64 b.lo] 24)) (w5.alloc (.cells #[.bool (parseA l).v6, .int .u64 (parseA l).hi, .int .u64 (parseA l).lo] 24)) := (low_trans hs03 hS5.2.2.2.2.2.2.2.2.2).alloc (low_trans hs03 hS5.2.2.2.2.2.2.2.2.2).size _
    have hL6 := hLS.below hs06
    clear IN K1 K2 K3 hS3 hS4 hS4b hS5 k44_0 k44_1 k44_2 k44_3 k44_4 k44_5 k44_6 k44_7 k44_8 hs44 k0_0 k0_1 k0_2 k0_3 k0_4 k0_5 k0_6 k0_7 k0_8 hs0 k3_0 k3_1 k3_2 k3_3 k3_4 k3_5 k3_6 k3_7 k3_8 hs3 k4_0 k4_1 k4_2 k4_3 k4_4 k4_5 k4_6 k4_7 k4_8 hs4
    have JN : ∀ w', Stays (w5.alloc (.cells #[.bool (parseA l).v6, .int .u64 (parseA l).hi, .int .u64 (parseA l).lo] 24)) w' → S06e a b l w w5 w' := fun w' h => ⟨cells_left h (cells_left hs06 TN.1.1), cells_left h (cells_left hs06 TN.1.2.1), cells_left h (cells_left hs06 TN.1.2.2), cells_left h (cells_left hs06 TN.2.1), cells_left h (cells_left hs06 TN.2.2.1), cells_left h (cells_left hs06 TN.2.2.2), cells_left h (cell_new _ _ _ _ _).1, cells_left h (cell_new _ _ _ _ _).2.1, cells_left h (cell_new _ _ _ _ _).2.2, h⟩
    have M1 : Hid (∀ W, S06e a b l w w5 W → Calls Tryd.prog 9 #[.agg #[.bool a.v6, .int .u64 a.hi, .int .u64 a.lo]] W fun e w' => e = .returned (.bool (rightA a)) ∧ S06e a b l w w5 w') := by
      intro W h
      have hs : Stays (w5.alloc (.cells #[.bool (parseA l).v6, .int .u64 (parseA l).hi, .int .u64 (parseA l).lo] 24)) W := h.2.2.2.2.2.2.2.2.2
      have hc : Calls Tryd.prog 9 #[.agg #[.bool a.v6, .int .u64 a.hi, .int .u64 a.lo]] W fun e w' => e = .returned (.bool (rightA a)) ∧ Below W.heap.size W w' := right_any a W ha
      exact hc.mono fun e w' ⟨he, hb⟩ => ⟨he, JN _ (low_trans hs hb)⟩
    have M2 : Hid (∀ W, S06e a b l w w5 W → Calls Tryd.prog 9 #[.agg #[.bool b.v6, .int .u64 b.hi, .int .u64 b.lo]] W fun e w' => e = .returned (.bool (rightA b)) ∧ S06e a b l w w5 w') := by
      intro W h
      have hs : Stays (w5.alloc (.cells #[.bool (parseA l).v6, .int .u64 (parseA l).hi, .int .u64 (parseA l).lo] 24)) W := h.2.2.2.2.2.2.2.2.2
      have hc : Calls Tryd.prog 9 #[.agg #[.bool b.v6, .int .u64 b.hi, .int .u64 b.lo]] W fun e w' => e = .returned (.bool (rightA b)) ∧ Below W.heap.size W w' := right_any b W hb
      exact hc.mono fun e w' ⟨he, hb⟩ => ⟨he, JN _ (low_trans hs hb)⟩
    have M3 : Hid (∀ W, S06e a b l w w5 W → Calls Tryd.prog 9 #[.agg #[.bool (parseA l).v6, .int .u64 (parseA l).hi, .int .u64 (parseA l).lo]] W fun e w' => e = .returned (.bool (rightA (parseA l))) ∧ S06e a b l w w5 w') := by
      intro W h
      have hs : Stays (w5.alloc (.cells #[.bool (parseA l).v6, .int .u64 (parseA l).hi, .int .u64 (parseA l).lo] 24)) W := h.2.2.2.2.2.2.2.2.2
      have hc : Calls Tryd.prog 9 #[.agg #[.bool (parseA l).v6, .int .u64 (parseA l).hi, .int .u64 (parseA l).lo]] W fun e w' => e = .returned (.bool (rightA (parseA l))) ∧ Below W.heap.size W w' := right_any (parseA l) W (parseA_ok l)
      exact hc.mono fun e w' ⟨he, hb⟩ => ⟨he, JN _ (low_trans hs hb)⟩
    have M4 : Hid (∀ W, S06e a b l w w5 W → Calls Tryd.prog 13 #[.agg #[.bool a.v6, .int .u64 a.hi, .int .u64 a.lo]] W fun e w' => e = .returned (.int .i64 (bitsA a : Nat)) ∧ S06e a b l w w5 w') := by
      intro W h
      have hs : Stays (w5.alloc (.cells #[.bool (parseA l).v6, .int .u64 (parseA l).hi, .int .u64 (parseA l).lo] 24)) W := h.2.2.2.2.2.2.2.2.2
      have hc : Calls Tryd.prog 13 #[.agg #[.bool a.v6, .int .u64 a.hi, .int .u64 a.lo]] W fun e w' => e = .returned (.int .i64 (bitsA a : Nat)) ∧ Below W.heap.size W w' := bits_any a W
      exact hc.mono fun e w' ⟨he, hb⟩ => ⟨he, JN _ (low_trans hs hb)⟩
    have M5 : Hid (∀ W, S06e a b l w w5 W → Calls Tryd.prog 13 #[.agg #[.bool b.v6, .int .u64 b.hi, .int .u64 b.lo]] W fun e w' => e = .returned (.int .i64 (bitsA b : Nat)) ∧ S06e a b l w w5 w') := by
      intro W h
      have hs : Stays (w5.alloc (.cells #[.bool (parseA l).v6, .int .u64 (parseA l).hi, .int .u64 (parseA l).lo] 24)) W := h.2.2.2.2.2.2.2.2.2
      have hc : Calls Tryd.prog 13 #[.agg #[.bool b.v6, .int .u64 b.hi, .int .u64 b.lo]] W fun e w' => e = .returned (.int .i64 (bitsA b : Nat)) ∧ Below W.heap.size W w' := bits_any b W
      exact hc.mono fun e w' ⟨he, hb⟩ => ⟨he, JN _ (low_trans hs hb)⟩
    have M6 : Hid (∀ W, S06e a b l w w5 W → Calls Tryd.prog 6 #[] W fun e w' => e = .returned (.bool true) ∧ S06e a b l w w5 w') := by
      intro W h
      have hs : Stays (w5.alloc (.cells #[.bool (parseA l).v6, .int .u64 (parseA l).hi, .int .u64 (parseA l).lo] 24)) W := h.2.2.2.2.2.2.2.2.2
      have hc : Calls Tryd.prog 6 #[] W fun e w' => e = .returned (.bool true) ∧ Below W.heap.size W w' := awake06_any W (hL6.below hs)
      exact hc.mono fun e w' ⟨he, hb⟩ => ⟨he, JN _ (low_trans hs hb)⟩
    have hk6 : S06e a b l w w5 (w5.alloc (.cells #[.bool (parseA l).v6, .int .u64 (parseA l).hi, .int .u64 (parseA l).lo] 24)) := JN _ (Below.refl _ _)
    obtain ⟨k6_0, k6_1, k6_2, k6_3, k6_4, k6_5, k6_6, k6_7, k6_8, hs6⟩ := id hk6
    clear hok
    go_wp2_with fail
    rw [hr] at M1
    have JD : ∀ W, S06e a b l w w5 W → S06e a b l w w5 W.drew := fun W h => JN _ (low_drewN h.2.2.2.2.2.2.2.2.2 1)
    go_region_with (first
        | (go_at_call 9; (with_reducible refine (M1.out _ (by first | assumption | exact JD _ ‹_›)).mono ?_); rintro e w9 ⟨rfl, hkw⟩; obtain ⟨r0, r1, r2, r3, r4, r5, r6, r7, r8, hrs⟩ := id hkw))
    all_goals go_wp2_with fail
    all_goals (with_reducible refine (M6.out _ (by first | assumption | exact JD _ ‹_›)).mono ?_)
    all_goals rintro e w8 ⟨rfl, hS8⟩
    all_goals go_wp2_with fail
    all_goals go_ret
    all_goals exact ⟨rfl, hB.trans ((low_trans hs06 hS8.2.2.2.2.2.2.2.2.2).mono hB.size)⟩
  · rw [hok] at K3
    (with_reducible refine (K3.out _ hS4b).mono ?_)
    rintro e w5 ⟨rfl, hS5⟩
    have hs06 : Stays ((w.alloc (.cells #[.bool a.v6, .int .u64 a.hi, .int .u64 a.lo] 24)).alloc (.cells #[.bool b.v6, .int .u64 b.hi, .int .u64 b.lo] 24)) (w5.alloc (.cells #[.bool (parseA l).v6, .int .u64 (parseA l).hi, .int .u64 (parseA l).lo] 24)) := (low_trans hs03 hS5.2.2.2.2.2.2.2.2.2).alloc (low_trans hs03 hS5.2.2.2.2.2.2.2.2.2).size _
    have hL6 := hLS.below hs06
    clear IN K1 K2 K3 hS3 hS4 hS4b hS5 k44_0 k44_1 k44_2 k44_3 k44_4 k44_5 k44_6 k44_7 k44_8 hs44 k0_0 k0_1 k0_2 k0_3 k0_4 k0_5 k0_6 k0_7 k0_8 hs0 k3_0 k3_1 k3_2 k3_3 k3_4 k3_5 k3_6 k3_7 k3_8 hs3 k4_0 k4_1 k4_2 k4_3 k4_4 k4_5 k4_6 k4_7 k4_8 hs4
    have JN : ∀ w', Stays (w5.alloc (.cells #[.bool (parseA l).v6, .int .u64 (parseA l).hi, .int .u64 (parseA l).lo] 24)) w' → S06e a b l w w5 w' := fun w' h => ⟨cells_left h (cells_left hs06 TN.1.1), cells_left h (cells_left hs06 TN.1.2.1), cells_left h (cells_left hs06 TN.1.2.2), cells_left h (cells_left hs06 TN.2.1), cells_left h (cells_left hs06 TN.2.2.1), cells_left h (cells_left hs06 TN.2.2.2), cells_left h (cell_new _ _ _ _ _).1, cells_left h (cell_new _ _ _ _ _).2.1, cells_left h (cell_new _ _ _ _ _).2.2, h⟩
    have M1 : Hid (∀ W, S06e a b l w w5 W → Calls Tryd.prog 9 #[.agg #[.bool a.v6, .int .u64 a.hi, .int .u64 a.lo]] W fun e w' => e = .returned (.bool (rightA a)) ∧ S06e a b l w w5 w') := by
      intro W h
      have hs : Stays (w5.alloc (.cells #[.bool (parseA l).v6, .int .u64 (parseA l).hi, .int .u64 (parseA l).lo] 24)) W := h.2.2.2.2.2.2.2.2.2
      have hc : Calls Tryd.prog 9 #[.agg #[.bool a.v6, .int .u64 a.hi, .int .u64 a.lo]] W fun e w' => e = .returned (.bool (rightA a)) ∧ Below W.heap.size W w' := right_any a W ha
      exact hc.mono fun e w' ⟨he, hb⟩ => ⟨he, JN _ (low_trans hs hb)⟩
    have M2 : Hid (∀ W, S06e a b l w w5 W → Calls Tryd.prog 9 #[.agg #[.bool b.v6, .int .u64 b.hi, .int .u64 b.lo]] W fun e w' => e = .returned (.bool (rightA b)) ∧ S06e a b l w w5 w') := by
      intro W h
      have hs : Stays (w5.alloc (.cells #[.bool (parseA l).v6, .int .u64 (parseA l).hi, .int .u64 (parseA l).lo] 24)) W := h.2.2.2.2.2.2.2.2.2
      have hc : Calls Tryd.prog 9 #[.agg #[.bool b.v6, .int .u64 b.hi, .int .u64 b.lo]] W fun e w' => e = .returned (.bool (rightA b)) ∧ Below W.heap.size W w' := right_any b W hb
      exact hc.mono fun e w' ⟨he, hb⟩ => ⟨he, JN _ (low_trans hs hb)⟩
    have M3 : Hid (∀ W, S06e a b l w w5 W → Calls Tryd.prog 9 #[.agg #[.bool (parseA l).v6, .int .u64 (parseA l).hi, .int .u64 (parseA l).lo]] W fun e w' => e = .returned (.bool (rightA (parseA l))) ∧ S06e a b l w w5 w') := by
      intro W h
      have hs : Stays (w5.alloc (.cells #[.bool (parseA l).v6, .int .u64 (parseA l).hi, .int .u64 (parseA l).lo] 24)) W := h.2.2.2.2.2.2.2.2.2
      have hc : Calls Tryd.prog 9 #[.agg #[.bool (parseA l).v6, .int .u64 (parseA l).hi, .int .u64 (parseA l).lo]] W fun e w' => e = .returned (.bool (rightA (parseA l))) ∧ Below W.heap.size W w' := right_any (parseA l) W (parseA_ok l)
      exact hc.mono fun e w' ⟨he, hb⟩ => ⟨he, JN _ (low_trans hs hb)⟩
    have M4 : Hid (∀ W, S06e a b l w w5 W → Calls Tryd.prog 13 #[.agg #[.bool a.v6, .int .u64 a.hi, .int .u64 a.lo]] W fun e w' => e = .returned (.int .i64 (bitsA a : Nat)) ∧ S06e a b l w w5 w') := by
      intro W h
      have hs : Stays (w5.alloc (.cells #[.bool (parseA l).v6, .int .u64 (parseA l).hi, .int .u64 (parseA l).lo] 24)) W := h.2.2.2.2.2.2.2.2.2
      have hc : Calls Tryd.prog 13 #[.agg #[.bool a.v6, .int .u64 a.hi, .int .u64 a.lo]] W fun e w' => e = .returned (.int .i64 (bitsA a : Nat)) ∧ Below W.heap.size W w' := bits_any a W
      exact hc.mono fun e w' ⟨he, hb⟩ => ⟨he, JN _ (low_trans hs hb)⟩
    have M5 : Hid (∀ W, S06e a b l w w5 W → Calls Tryd.prog 13 #[.agg #[.bool b.v6, .int .u64 b.hi, .int .u64 b.lo]] W fun e w' => e = .returned (.int .i64 (bitsA b : Nat)) ∧ S06e a b l w w5 w') := by
      intro W h
      have hs : Stays (w5.alloc (.cells #[.bool (parseA l).v6, .int .u64 (parseA l).hi, .int .u64 (parseA l).lo] 24)) W := h.2.2.2.2.2.2.2.2.2
      have hc : Calls Tryd.prog 13 #[.agg #[.bool b.v6, .int .u64 b.hi, .int .u64 b.lo]] W fun e w' => e = .returned (.int .i64 (bitsA b : Nat)) ∧ Below W.heap.size W w' := bits_any b W
      exact hc.mono fun e w' ⟨he, hb⟩ => ⟨he, JN _ (low_trans hs hb)⟩
    have M6 : Hid (∀ W, S06e a b l w w5 W → Calls Tryd.prog 6 #[] W fun e w' => e = .returned (.bool true) ∧ S06e a b l w w5 w') := by
      intro W h
      have hs : Stays (w5.alloc (.cells #[.bool (parseA l).v6, .int .u64 (parseA l).hi, .int .u64 (parseA l).lo] 24)) W := h.2.2.2.2.2.2.2.2.2
      have hc : Calls Tryd.prog 6 #[] W fun e w' => e = .returned (.bool true) ∧ Below W.heap.size W w' := awake06_any W (hL6.below hs)
      exact hc.mono fun e w' ⟨he, hb⟩ => ⟨he, JN _ (low_trans hs hb)⟩
    have hk6 : S06e a b l w w5 (w5.alloc (.cells #[.bool (parseA l).v6, .int .u64 (parseA l).hi, .int .u64 (parseA l).lo] 24)) := JN _ (Below.refl _ _)
    obtain ⟨k6_0, k6_1, k6_2, k6_3, k6_4, k6_5, k6_6, k6_7, k6_8, hs6⟩ := id hk6
    rw [parseA_right hok] at M3
    clear hok
    go_wp2_with fail
    (with_reducible refine (M3.out _ hk6).mono ?_)
    rintro e w7 ⟨rfl, hS7⟩
    clear k6_0 k6_1 k6_2 k6_3 k6_4 k6_5 k6_6 k6_7 k6_8 hs6
    obtain ⟨k6_0, k6_1, k6_2, k6_3, k6_4, k6_5, k6_6, k6_7, k6_8, hs6⟩ := id hS7
    go_wp2_with fail
    rw [hr] at M1
    have JD : ∀ W, S06e a b l w w5 W → S06e a b l w w5 W.drew := fun W h => JN _ (low_drewN h.2.2.2.2.2.2.2.2.2 1)
    go_region_with (first
        | (go_at_call 9; (with_reducible refine (M1.out _ (by first | assumption | exact JD _ ‹_›)).mono ?_); rintro e w9 ⟨rfl, hkw⟩; obtain ⟨r0, r1, r2, r3, r4, r5, r6, r7, r8, hrs⟩ := id hkw))
    all_goals go_wp2_with fail
    all_goals (with_reducible refine (M6.out _ (by first | assumption | exact JD _ ‹_›)).mono ?_)
    all_goals rintro e w8 ⟨rfl, hS8⟩
    all_goals go_wp2_with fail
    all_goals go_ret
    all_goals exact ⟨rfl, hB.trans ((low_trans hs06 hS8.2.2.2.2.2.2.2.2.2).mono hB.size)⟩
theorem addrBack_walk (w : World) (a : Adr) (ha : a.ok) (b : Adr) (hb : b.ok) (l : List UInt8) (hl : l.length ≤ 9223372036854775807) (hL : Lens w) :
    Calls Tryd.prog 4 #[.agg #[.bool a.v6, .int .u64 a.hi, .int .u64 a.lo], .agg #[.bool b.v6, .int .u64 b.hi, .int .u64 b.lo], .string ⟨l.toArray⟩] w fun e w' => e = .returned (.bool true) ∧ Below w.heap.size w w' := by
  by_cases h : 1000 < l.length
  · have hB : Below w.heap.size w ((w.alloc (.cells #[.bool a.v6, .int .u64 a.hi, .int .u64 a.lo] 24)).alloc (.cells #[.bool b.v6, .int .u64 b.hi, .int .u64 b.lo] 24)) := two_low _ _ _
    have hL0 := hL.below hB
    go_enter Tryd.func4, Tryd.ntmps4
    go_wp2_with fail
    refine (awake06_any _ hL0).mono ?_
    rintro e w1 ⟨rfl, hb1⟩
    go_wp2_with fail
    go_ret
    exact ⟨rfl, hB.trans (hb1.mono hB.size)⟩
  · cases hr : rightA a
    · exact back_no w a ha b hb l (by omega) hL hr
    · exact back_yes w a ha b hb l (by omega) hL hr
namespace addrBack
theorem contract (H : Type) (enc : TypeId × Value → H) (W : World) (base : Nat) (args : Array Value) (ds gs : List (DataW H)) (before : List MemPlace)
    (hval0 : ∀ (j : Nat) t v, Tryd.f4.params[j]? = some t → args[j]? = some v → Value.okWide Tryd.prog W .any base t v)
    (hW : DataW.Whole enc Tryd.prog Tryd.f4.params.toList Rows.addrBackSpec.vars false W args.toList ds gs before) (hSh : W.ShapedOpen Tryd.prog) :
    Calls Tryd.prog 4 args W fun e W' => ∃ v, e = .returned v ∧ Rows.addrBackSpec.post enc Tryd.prog Tryd.f4 false true false false W args v W' := by
  have hval : ∀ (j : Nat) t v, Tryd.f4.params[j]? = some t → args[j]? = some v → Value.okWide Tryd.prog W .any base t v := hval0
  have hW' := hW
  obtain ⟨p, q, hA0, hV, _, _, _⟩ := hW
  have hA : DataW.TrodAll enc Tryd.prog W 0 (fun _ => true) true Tryd.f4.params.toList args.toList ds p := hA0
  rw [Tryd.params4] at hA hval
  obtain ⟨v0, vs0, d0, ds0, p0, q0, hargs, rfl, rfl, h0, r0⟩ := trodAll_cons hA
  obtain ⟨v1, vs1, d1, ds1, p1, q1, rfl, rfl, rfl, h1, r1⟩ := trodAll_cons r0
  obtain ⟨v2, vs2, d2, ds2, p2, q2, rfl, rfl, rfl, h2, r2⟩ := trodAll_cons r1
  obtain ⟨rfl, rfl, rfl⟩ := trodAll_nil r2
  obtain rfl : args = #[v0, v1, v2] := by cases args; simp_all
  obtain ⟨rfl, rfl⟩ := trodVars_none hV
  obtain ⟨a0, z0, rfl, rfl, rfl⟩ := open_adr (tb := 4) (ti := 22) Tryd.underlying24 (by kernel_rfl) (by kernel_rfl) rfl rfl rfl Tryd.underlying4 Tryd.underlying22 (hval 0 24 v0 rfl rfl) h0
  obtain ⟨a1, z1, rfl, rfl, rfl⟩ := open_adr (tb := 4) (ti := 22) Tryd.underlying24 (by kernel_rfl) (by kernel_rfl) rfl rfl rfl Tryd.underlying4 Tryd.underlying22 (hval 1 24 v1 rfl rfl) h1
  obtain ⟨b2, rfl, rfl, rfl, w2⟩ := ChangeMaps.open_string Tryd.underlying9 (hval 2 9 v2 rfl rfl) h2
  obtain ⟨a2, rfl⟩ : ∃ a : List UInt8, b2 = ⟨a.toArray⟩ := ⟨b2.data.toList, (str_same _).symm⟩
  have z2 : a2.length ≤ 9223372036854775807 := by unfold maxLen at w2; rw [← len_size, str_back] at w2; exact w2
  clear hA0 hval0
  refine (addrBack_walk W a0 z0 a1 z1 a2 (by omega) (V6.Lens.start hSh)).mono fun e W' ⟨he, hg⟩ => ?_
  subst he
  exact ⟨_, rfl, post_law laidOut (by kernel_rfl) (by kernel_rfl) Tryd.underlying4 rfl hW' rfl rfl rfl hg⟩
set_option maxRecDepth 100000 in
theorem lifted (os : Os) (started : os.Started) (H : Type) (enc : TypeId × Value → H) (F : Stop.Interp) :
    ReturnsInHanded {} Tryd.checked os 4 .any ((OpenSpec.ofChange Rows.addrBackSpec).preRow enc Tryd.prog Tryd.f4 Rows.addrBackRow.domain false Rows.addrBackRow.laid) (((OpenSpec.ofChange Rows.addrBackSpec).at F).post enc Tryd.prog Tryd.f4 false true false false) := by
  refine returnsInHanded_of_row (C := Tryd.checked) (s := OpenSpec.ofChange Rows.addrBackSpec) own started (by kernel_rfl) Tryd.func4
    (witness_laid (enc := enc) (C := Tryd.checked) (s := OpenSpec.ofChange Rows.addrBackSpec) (laid := Rows.addrBackRow.laid) #[.agg #[.bool false, .int .u64 0, .int .u64 0], .agg #[.bool false, .int .u64 0, .int .u64 0], .string ByteArray.empty] (World.shaped_of_ZipB (by kernel_rfl) (by kernel_rfl)) (by kernel_rfl)
      (OpenSpec.preRow_of_cond 8 (x := ([.agg [.lit (.bool false), .lit (.int .u64 0), .lit (.int .u64 0)], .agg [.lit (.bool false), .lit (.int .u64 0), .lit (.int .u64 0)], .lit (.string [])], [], [])) (by kernel_rfl) (by kernel_rfl) (fun k hk => by cases hk) (by kernel_rfl)
        (by rw [MakeChecks.laidMetH_plain _ _ _ (by kernel_rfl)]; exact laidMet_laidAll _ (by kernel_rfl) (by kernel_rfl)))) ?_
  intro W base args ds gs before hval hW _ hcond _ _ hsh _
  exact contract H enc W base args ds gs before hval hW hsh
theorem over : Rows.addrBackRow.holds Tryd.pinned (OpenSpec.ofChange Rows.addrBackSpec) :=
  OpenClaim.holds_of_cond 4 Tryd.f4 rfl rfl rfl rfl rfl rfl rfl ⟨rfl, rfl, rfl, rfl, rfl⟩ rfl rfl rfl rfl rfl (by kernel_rfl) Tryd.func4 (by kernel_rfl)
    (of_decide_eq_true (by kernel_rfl)) (by unfold Func.isWrapper; first | (rw [if_pos (by decide +kernel)]; kernel_rfl) | (rw [if_neg (by decide +kernel)]; exact ⟨rfl, rfl⟩))
    (fun os started H enc _ F => by rw [OpenClaim.pre_eq_preRow]; exact lifted os started H enc F)
/-- ████ THE STATEMENT ████ -/
theorem proved : Rows.AddrBackCardSaid :=
  Claim7.holds_tied_plain_at .later [] Rows.addrBackCard.laidKinds Rows.addrBackCard.laidTests Rows.addrBackCard.stood.harness Rows.addrBackCard.stood.looks over (fun _ h => by cases h) (by kernel_rfl) (fun _ h => by cases h) addrBack_row_tie rfl ⟨rfl, rfl⟩ (by kernel_rfl) rfl
    (fun f fn hf hfn => by
      obtain rfl : f = 4 := Option.some.inj ((show Tryd.prog.funcNamed Rows.addrBackRow.func = some 4 by kernel_rfl).symm.trans hf) |>.symm
      obtain rfl : fn = Tryd.f4 := (Option.some.inj (Tryd.func4.symm.trans hfn)).symm
      exact ⟨by kernel_rfl, no_standin (by kernel_rfl)⟩)
    (by kernel_rfl)
end addrBack
end Go.Proofs.YtokbifndhkijiaaDoor
