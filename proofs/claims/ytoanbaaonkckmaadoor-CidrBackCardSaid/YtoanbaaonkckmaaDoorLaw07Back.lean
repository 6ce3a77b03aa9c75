/- The second statement of layer 7, proved: a subnet that is right is read of its text, and what is read is right; for all subnets and all texts, under the row's listed variables. -/
import Derived.Test.YtoanbaaonkckmaaDoorLaw07
namespace Go.Proofs.YtoanbaaonkckmaaDoor
set_option maxRecDepth 100000
open Go.ChangeShapes Go.WideShapes Go.ChangeAt Go.RowKit
open Words Dec V4 V6 Ad Ci
set_option linter.unusedVariables false
abbrev S07d (n m : Net) (w w2 : World) (w' : World) : Prop := w'.cell? ⟨w.heap.size, 0, none⟩ = some (.bool n.a.v6) ∧ w'.cell? ⟨w.heap.size, 1, none⟩ = some (.int .u64 n.a.hi) ∧ w'.cell? ⟨w.heap.size, 2, none⟩ = some (.int .u64 n.a.lo) ∧ w'.cell? ⟨w.heap.size, 3, none⟩ = some (.int .i64 n.n) ∧ w'.cell? ⟨w2.heap.size, 0, none⟩ = some (.bool m.a.v6) ∧ w'.cell? ⟨w2.heap.size, 1, none⟩ = some (.int .u64 m.a.hi) ∧ w'.cell? ⟨w2.heap.size, 2, none⟩ = some (.int .u64 m.a.lo) ∧ w'.cell? ⟨w2.heap.size, 3, none⟩ = some (.int .i64 m.n) ∧ Stays (w2.alloc (.cells #[.bool m.a.v6, .int .u64 m.a.hi, .int .u64 m.a.lo, .int .i64 m.n] 26)) w'
abbrev S07e (l : List UInt8) (w5 : World) (w' : World) : Prop := w'.cell? ⟨w5.heap.size, 0, none⟩ = some (.bool (parseN l).a.v6) ∧ w'.cell? ⟨w5.heap.size, 1, none⟩ = some (.int .u64 (parseN l).a.hi) ∧ w'.cell? ⟨w5.heap.size, 2, none⟩ = some (.int .u64 (parseN l).a.lo) ∧ w'.cell? ⟨w5.heap.size, 3, none⟩ = some (.int .i64 (parseN l).n) ∧ Stays (w5.alloc (.cells #[.bool (parseN l).a.v6, .int .u64 (parseN l).a.hi, .int .u64 (parseN l).a.lo, .int .i64 (parseN l).n] 26)) w'
abbrev S07f (l : List UInt8) (a : Adr) (w5 w7 : World) (w' : World) : Prop := w'.cell? ⟨w5.heap.size, 0, none⟩ = some (.bool (parseN l).a.v6) ∧ w'.cell? ⟨w5.heap.size, 1, none⟩ = some (.int .u64 (parseN l).a.hi) ∧ w'.cell? ⟨w5.heap.size, 2, none⟩ = some (.int .u64 (parseN l).a.lo) ∧ w'.cell? ⟨w5.heap.size, 3, none⟩ = some (.int .i64 (parseN l).n) ∧ Stays (w7.alloc (.cells #[.bool a.v6, .int .u64 a.hi, .int .u64 a.lo] 24)) w'
theorem okA_textN (l : List UInt8) : ∀ W, okN l = true → Calls Tryd.prog 18 #[.string ⟨(textN (parseN l)).toArray⟩] W fun e w' => e = .returned (.tuple #[.agg #[.bool (parseA (textN (parseN l))).v6, .int .u64 (parseA (textN (parseN l))).hi, .int .u64 (parseA (textN (parseN l))).lo], .bool false]) ∧ Below W.heap.size W w' := by
  intro W h
  have hr := parseN_right h
  have := rparseA_any (textN (parseN l)) W (by have := textN_len (parseN_ok l); omega)
  unfold ParseA at this
  rwa [textN_bad hr] at this
set_option maxHeartbeats 16000000 in
theorem cback_yes (w : World) (n : Net) (hn : n.ok) (l : List UInt8) (hl : l.length ≤ 9223372036854775807) (hL : Lens w) (hr : rightN n = true) :
    Calls Tryd.prog 4 #[.agg #[.bool n.a.v6, .int .u64 n.a.hi, .int .u64 n.a.lo, .int .i64 n.n], .string ⟨l.toArray⟩] w fun e w' => e = .returned (.bool true) ∧ Below w.heap.size w w' := by
  have hL0 := hL.below ((Below.refl w.heap.size w).alloc (Nat.le_refl _) (.cells #[.bool n.a.v6, .int .u64 n.a.hi, .int .u64 n.a.lo, .int .i64 n.n] 26))
  have T1 := Lib.hid (fun W => textN_any n W hn)
  have TL := textN_len hn
  have P1 := Lib.hid (parseN_any (textN n))
  unfold ParseN at P1
  rw [(backN hn hr).1, (backN hn hr).2] at P1
  have RI := fun W => rightN_any n W hn
  rw [hr] at RI
  have NQ : ∀ W, (binOp .neq 26 (.agg #[.bool n.a.v6, .int .u64 n.a.hi, .int .u64 n.a.lo, .int .i64 n.n]) (.agg #[.bool n.a.v6, .int .u64 n.a.hi, .int .u64 n.a.lo, .int .i64 n.n])).run Tryd.prog W = .ok (.bool false) W := fun W => by rw [neqNet, same_selfN]; rfl
  clear hr
  go_enter Tryd.func4, Tryd.ntmps4
  go_wp2_with fail
  (with_reducible refine (T1.out _).mono ?_)
  rintro e w1 ⟨rfl, hb1⟩
  go_wp2_with fail
  (with_reducible refine (P1.out _ (by first | omega | simp) (hL0.below hb1)).mono ?_)
  rintro e w2 ⟨rfl, hb2⟩
  have hs02 : Stays (w.alloc (.cells #[.bool n.a.v6, .int .u64 n.a.hi, .int .u64 n.a.lo, .int .i64 n.n] 26)) (w2.alloc (.cells #[.bool n.a.v6, .int .u64 n.a.hi, .int .u64 n.a.lo, .int .i64 n.n] 26)) := (low_trans hb1 hb2).alloc (low_trans hb1 hb2).size _
  have hL3 := hL0.below hs02
  clear T1 P1 hb1 hb2
  by_cases h10 : 1000 < l.length
  · have IN : ∀ w', Stays (w2.alloc (.cells #[.bool n.a.v6, .int .u64 n.a.hi, .int .u64 n.a.lo, .int .i64 n.n] 26)) w' → S07d n n w w2 w' := fun w' h => ⟨Ci.cells_left h (Ci.cells_left hs02 (cell_new4 _ _ _ _ _ _).1), Ci.cells_left h (Ci.cells_left hs02 (cell_new4 _ _ _ _ _ _).2.1), Ci.cells_left h (Ci.cells_left hs02 (cell_new4 _ _ _ _ _ _).2.2.1), Ci.cells_left h (Ci.cells_left hs02 (cell_new4 _ _ _ _ _ _).2.2.2), Ci.cells_left h (cell_new4 _ _ _ _ _ _).1, Ci.cells_left h (cell_new4 _ _ _ _ _ _).2.1, Ci.cells_left h (cell_new4 _ _ _ _ _ _).2.2.1, Ci.cells_left h (cell_new4 _ _ _ _ _ _).2.2.2, h⟩
    have K1 : Hid (∀ W, S07d n n w w2 W → Calls Tryd.prog 10 #[.agg #[.bool n.a.v6, .int .u64 n.a.hi, .int .u64 n.a.lo, .int .i64 n.n]] W fun e w' => e = .returned (.bool true) ∧ S07d n n w w2 w') := by
      intro W h
      have hs : Stays (w2.alloc (.cells #[.bool n.a.v6, .int .u64 n.a.hi, .int .u64 n.a.lo, .int .i64 n.n] 26)) W := h.2.2.2.2.2.2.2.2
      have hc : Calls Tryd.prog 10 #[.agg #[.bool n.a.v6, .int .u64 n.a.hi, .int .u64 n.a.lo, .int .i64 n.n]] W fun e w' => e = .returned (.bool true) ∧ Below W.heap.size W w' := RI W
      exact hc.mono fun e w' ⟨he, hb⟩ => ⟨he, IN _ (low_trans hs hb)⟩
    have K9 : Hid (∀ W, S07d n n w w2 W → Calls Tryd.prog 5 #[] W fun e w' => e = .returned (.bool true) ∧ S07d n n w w2 w') := by
      intro W h
      have hs : Stays (w2.alloc (.cells #[.bool n.a.v6, .int .u64 n.a.hi, .int .u64 n.a.lo, .int .i64 n.n] 26)) W := h.2.2.2.2.2.2.2.2
      have hc : Calls Tryd.prog 5 #[] W fun e w' => e = .returned (.bool true) ∧ Below W.heap.size W w' := awake07_any W (hL3.below hs)
      exact hc.mono fun e w' ⟨he, hb⟩ => ⟨he, IN _ (low_trans hs hb)⟩
    have hk0 : S07d n n w w2 (w2.alloc (.cells #[.bool n.a.v6, .int .u64 n.a.hi, .int .u64 n.a.lo, .int .i64 n.n] 26)) := IN _ (Below.refl _ _)
    obtain ⟨c0, c1, c2, c3, c4, c5, c6, c7, hsx⟩ := id hk0
    go_wp2_with fail
    (with_reducible refine (K1.out _ hk0).mono ?_)
    rintro e w3 ⟨rfl, hk3⟩
    obtain ⟨q0_w3, q1_w3, q2_w3, q3_w3, q4_w3, q5_w3, q6_w3, q7_w3, hs_w3⟩ := id hk3
    go_wp2_with fail
    (with_reducible refine (K9.out _ hk3).mono ?_)
    rintro e w4 ⟨rfl, hk4⟩
    obtain ⟨q0_w4, q1_w4, q2_w4, q3_w4, q4_w4, q5_w4, q6_w4, q7_w4, hs_w4⟩ := id hk4
    go_wp2_with fail
    go_ret
    exact ⟨rfl, ((Below.refl _ _).alloc (Nat.le_refl _) _).trans ((low_trans hs02 hk4.2.2.2.2.2.2.2.2).mono (by simp))⟩
  · have IN : ∀ w', Stays (w2.alloc (.cells #[.bool n.a.v6, .int .u64 n.a.hi, .int .u64 n.a.lo, .int .i64 n.n] 26)) w' → S07d n n w w2 w' := fun w' h => ⟨Ci.cells_left h (Ci.cells_left hs02 (cell_new4 _ _ _ _ _ _).1), Ci.cells_left h (Ci.cells_left hs02 (cell_new4 _ _ _ _ _ _).2.1), Ci.cells_left h (Ci.cells_left hs02 (cell_new4 _ _ _ _ _ _).2.2.1), Ci.cells_left h (Ci.cells_left hs02 (cell_new4 _ _ _ _ _ _).2.2.2), Ci.cells_left h (cell_new4 _ _ _ _ _ _).1, Ci.cells_left h (cell_new4 _ _ _ _ _ _).2.1, Ci.cells_left h (cell_new4 _ _ _ _ _ _).2.2.1, Ci.cells_left h (cell_new4 _ _ _ _ _ _).2.2.2, h⟩
    have K1 : Hid (∀ W, S07d n n w w2 W → Calls Tryd.prog 10 #[.agg #[.bool n.a.v6, .int .u64 n.a.hi, .int .u64 n.a.lo, .int .i64 n.n]] W fun e w' => e = .returned (.bool true) ∧ S07d n n w w2 w') := by
      intro W h
      have hs : Stays (w2.alloc (.cells #[.bool n.a.v6, .int .u64 n.a.hi, .int .u64 n.a.lo, .int .i64 n.n] 26)) W := h.2.2.2.2.2.2.2.2
      have hc : Calls Tryd.prog 10 #[.agg #[.bool n.a.v6, .int .u64 n.a.hi, .int .u64 n.a.lo, .int .i64 n.n]] W fun e w' => e = .returned (.bool true) ∧ Below W.heap.size W w' := RI W
      exact hc.mono fun e w' ⟨he, hb⟩ => ⟨he, IN _ (low_trans hs hb)⟩
    have K2 : Hid (∀ W, S07d n n w w2 W → Calls Tryd.prog 8 #[.string ⟨l.toArray⟩] W fun e w' => e = .returned (.tuple #[.agg #[.bool (parseN l).a.v6, .int .u64 (parseN l).a.hi, .int .u64 (parseN l).a.lo, .int .i64 (parseN l).n], .bool (okN l)]) ∧ S07d n n w w2 w') := by
      intro W h
      have hs : Stays (w2.alloc (.cells #[.bool n.a.v6, .int .u64 n.a.hi, .int .u64 n.a.lo, .int .i64 n.n] 26)) W := h.2.2.2.2.2.2.2.2
      have hc : Calls Tryd.prog 8 #[.string ⟨l.toArray⟩] W fun e w' => e = .returned (.tuple #[.agg #[.bool (parseN l).a.v6, .int .u64 (parseN l).a.hi, .int .u64 (parseN l).a.lo, .int .i64 (parseN l).n], .bool (okN l)]) ∧ Below W.heap.size W w' := parseN_any l W (by omega) (hL3.below hs)
      exact hc.mono fun e w' ⟨he, hb⟩ => ⟨he, IN _ (low_trans hs hb)⟩
    have hk0 : S07d n n w w2 (w2.alloc (.cells #[.bool n.a.v6, .int .u64 n.a.hi, .int .u64 n.a.lo, .int .i64 n.n] 26)) := IN _ (Below.refl _ _)
    obtain ⟨c0, c1, c2, c3, c4, c5, c6, c7, hsx⟩ := id hk0
    go_wp2_with fail
    (with_reducible refine (K1.out _ hk0).mono ?_)
    rintro e w3 ⟨rfl, hk3⟩
    obtain ⟨q0_w3, q1_w3, q2_w3, q3_w3, q4_w3, q5_w3, q6_w3, q7_w3, hs_w3⟩ := id hk3
    go_wp2_with fail
    cases hok : okN l
    · rw [hok] at K2
      have EZ : ∀ W, (binOp .eql 26 (.agg #[.bool (parseN l).a.v6, .int .u64 (parseN l).a.hi, .int .u64 (parseN l).a.lo, .int .i64 (parseN l).n]) (.agg #[.bool false, .int .u64 0, .int .u64 0, .int .i64 0])).run Tryd.prog W = .ok (.bool true) W := fun W => by rw [parseN_no hok]; exact eqNet zero zero W
      (with_reducible refine (K2.out _ hk3).mono ?_)
      rintro e w5 ⟨rfl, hk5⟩
      have hs05 : Stays (w.alloc (.cells #[.bool n.a.v6, .int .u64 n.a.hi, .int .u64 n.a.lo, .int .i64 n.n] 26)) (w5.alloc (.cells #[.bool (parseN l).a.v6, .int .u64 (parseN l).a.hi, .int .u64 (parseN l).a.lo, .int .i64 (parseN l).n] 26)) := (low_trans hs02 hk5.2.2.2.2.2.2.2.2).alloc (low_trans hs02 hk5.2.2.2.2.2.2.2.2).size _
      have hL5 := hL0.below hs05
      clear hok
      have JN : ∀ w', Stays (w5.alloc (.cells #[.bool (parseN l).a.v6, .int .u64 (parseN l).a.hi, .int .u64 (parseN l).a.lo, .int .i64 (parseN l).n] 26)) w' → S07e l w5 w' := fun w' h => ⟨Ci.cells_left h (cell_new4 _ _ _ _ _ _).1, Ci.cells_left h (cell_new4 _ _ _ _ _ _).2.1, Ci.cells_left h (cell_new4 _ _ _ _ _ _).2.2.1, Ci.cells_left h (cell_new4 _ _ _ _ _ _).2.2.2, h⟩
      have J9 : Hid (∀ W, S07e l w5 W → Calls Tryd.prog 5 #[] W fun e w' => e = .returned (.bool true) ∧ S07e l w5 w') := by
        intro W h
        have hs : Stays (w5.alloc (.cells #[.bool (parseN l).a.v6, .int .u64 (parseN l).a.hi, .int .u64 (parseN l).a.lo, .int .i64 (parseN l).n] 26)) W := h.2.2.2.2
        have hc : Calls Tryd.prog 5 #[] W fun e w' => e = .returned (.bool true) ∧ Below W.heap.size W w' := awake07_any W (hL5.below hs)
        exact hc.mono fun e w' ⟨he, hb⟩ => ⟨he, JN _ (low_trans hs hb)⟩
      have hk6 : S07e l w5 (w5.alloc (.cells #[.bool (parseN l).a.v6, .int .u64 (parseN l).a.hi, .int .u64 (parseN l).a.lo, .int .i64 (parseN l).n] 26)) := JN _ (Below.refl _ _)
      obtain ⟨x0, x1, x2, x3, hsy⟩ := id hk6
      go_wp2_with fail
      (with_reducible refine (J9.out _ hk6).mono ?_)
      rintro e w7 ⟨rfl, hk7⟩
      obtain ⟨q0_w7, q1_w7, q2_w7, q3_w7, hs_w7⟩ := id hk7
      go_wp2_with fail
      go_ret
      exact ⟨rfl, ((Below.refl _ _).alloc (Nat.le_refl _) _).trans ((low_trans hs05 hk7.2.2.2.2).mono (by simp))⟩
    · rw [hok] at K2
      (with_reducible refine (K2.out _ hk3).mono ?_)
      rintro e w5 ⟨rfl, hk5⟩
      have hs05 : Stays (w.alloc (.cells #[.bool n.a.v6, .int .u64 n.a.hi, .int .u64 n.a.lo, .int .i64 n.n] 26)) (w5.alloc (.cells #[.bool (parseN l).a.v6, .int .u64 (parseN l).a.hi, .int .u64 (parseN l).a.lo, .int .i64 (parseN l).n] 26)) := (low_trans hs02 hk5.2.2.2.2.2.2.2.2).alloc (low_trans hs02 hk5.2.2.2.2.2.2.2.2).size _
      have hL5 := hL0.below hs05
      have hrx := parseN_right hok
      obtain ⟨a, ha⟩ : ∃ a, a = parseA (textN (parseN l)) := ⟨_, rfl⟩
      have JN : ∀ w', Stays (w5.alloc (.cells #[.bool (parseN l).a.v6, .int .u64 (parseN l).a.hi, .int .u64 (parseN l).a.lo, .int .i64 (parseN l).n] 26)) w' → S07e l w5 w' := fun w' h => ⟨Ci.cells_left h (cell_new4 _ _ _ _ _ _).1, Ci.cells_left h (cell_new4 _ _ _ _ _ _).2.1, Ci.cells_left h (cell_new4 _ _ _ _ _ _).2.2.1, Ci.cells_left h (cell_new4 _ _ _ _ _ _).2.2.2, h⟩
      have J1 : Hid (∀ W, S07e l w5 W → Calls Tryd.prog 16 #[.agg #[.bool (parseN l).a.v6, .int .u64 (parseN l).a.hi, .int .u64 (parseN l).a.lo, .int .i64 (parseN l).n]] W fun e w' => e = .returned (.string ⟨(textN (parseN l)).toArray⟩) ∧ S07e l w5 w') := by
        intro W h
        have hs : Stays (w5.alloc (.cells #[.bool (parseN l).a.v6, .int .u64 (parseN l).a.hi, .int .u64 (parseN l).a.lo, .int .i64 (parseN l).n] 26)) W := h.2.2.2.2
        have hc : Calls Tryd.prog 16 #[.agg #[.bool (parseN l).a.v6, .int .u64 (parseN l).a.hi, .int .u64 (parseN l).a.lo, .int .i64 (parseN l).n]] W fun e w' => e = .returned (.string ⟨(textN (parseN l)).toArray⟩) ∧ Below W.heap.size W w' := textN_any (parseN l) W (parseN_ok l)
        exact hc.mono fun e w' ⟨he, hb⟩ => ⟨he, JN _ (low_trans hs hb)⟩
      have J2 : Hid (∀ W, S07e l w5 W → Calls Tryd.prog 18 #[.string ⟨(textN (parseN l)).toArray⟩] W fun e w' => e = .returned (.tuple #[.agg #[.bool a.v6, .int .u64 a.hi, .int .u64 a.lo], .bool false]) ∧ S07e l w5 w') := by
        intro W h
        have hs : Stays (w5.alloc (.cells #[.bool (parseN l).a.v6, .int .u64 (parseN l).a.hi, .int .u64 (parseN l).a.lo, .int .i64 (parseN l).n] 26)) W := h.2.2.2.2
        have hc : Calls Tryd.prog 18 #[.string ⟨(textN (parseN l)).toArray⟩] W fun e w' => e = .returned (.tuple #[.agg #[.bool a.v6, .int .u64 a.hi, .int .u64 a.lo], .bool false]) ∧ Below W.heap.size W w' := by rw [ha]; exact okA_textN l W hok
        exact hc.mono fun e w' ⟨he, hb⟩ => ⟨he, JN _ (low_trans hs hb)⟩
      have hk6 : S07e l w5 (w5.alloc (.cells #[.bool (parseN l).a.v6, .int .u64 (parseN l).a.hi, .int .u64 (parseN l).a.lo, .int .i64 (parseN l).n] 26)) := JN _ (Below.refl _ _)
      obtain ⟨x0, x1, x2, x3, hsy⟩ := id hk6
      clear ha
      go_wp2_with fail
      (with_reducible refine (J1.out _ hk6).mono ?_)
      rintro e w7 ⟨rfl, hk7⟩
      obtain ⟨q0_w7, q1_w7, q2_w7, q3_w7, hs_w7⟩ := id hk7
      go_wp2_with fail
      (with_reducible refine (J2.out _ hk7).mono ?_)
      rintro e w8 ⟨rfl, hk8⟩
      have hs58 : Stays (w5.alloc (.cells #[.bool (parseN l).a.v6, .int .u64 (parseN l).a.hi, .int .u64 (parseN l).a.lo, .int .i64 (parseN l).n] 26)) (w8.alloc (.cells #[.bool a.v6, .int .u64 a.hi, .int .u64 a.lo] 24)) := Below.alloc hk8.2.2.2.2 (Below.size hk8.2.2.2.2) _
      have hs08 := low_trans hs05 hs58
      have hL8 := hL0.below hs08
      have LN : ∀ w', Stays (w8.alloc (.cells #[.bool a.v6, .int .u64 a.hi, .int .u64 a.lo] 24)) w' → S07f l a w5 w8 w' := fun w' h => ⟨Ci.cells_left h (Ci.cells_left hs58 (cell_new4 _ _ _ _ _ _).1), Ci.cells_left h (Ci.cells_left hs58 (cell_new4 _ _ _ _ _ _).2.1), Ci.cells_left h (Ci.cells_left hs58 (cell_new4 _ _ _ _ _ _).2.2.1), Ci.cells_left h (Ci.cells_left hs58 (cell_new4 _ _ _ _ _ _).2.2.2), h⟩
      have L1 : Hid (∀ W, S07f l a w5 w8 W → Calls Tryd.prog 10 #[.agg #[.bool (parseN l).a.v6, .int .u64 (parseN l).a.hi, .int .u64 (parseN l).a.lo, .int .i64 (parseN l).n]] W fun e w' => e = .returned (.bool true) ∧ S07f l a w5 w8 w') := by
        intro W h
        have hs : Stays (w8.alloc (.cells #[.bool a.v6, .int .u64 a.hi, .int .u64 a.lo] 24)) W := h.2.2.2.2
        have hc : Calls Tryd.prog 10 #[.agg #[.bool (parseN l).a.v6, .int .u64 (parseN l).a.hi, .int .u64 (parseN l).a.lo, .int .i64 (parseN l).n]] W fun e w' => e = .returned (.bool true) ∧ Below W.heap.size W w' := by have h := rightN_any (parseN l) W (parseN_ok l); rwa [hrx] at h
        exact hc.mono fun e w' ⟨he, hb⟩ => ⟨he, LN _ (low_trans hs hb)⟩
      have L9 : Hid (∀ W, S07f l a w5 w8 W → Calls Tryd.prog 5 #[] W fun e w' => e = .returned (.bool true) ∧ S07f l a w5 w8 w') := by
        intro W h
        have hs : Stays (w8.alloc (.cells #[.bool a.v6, .int .u64 a.hi, .int .u64 a.lo] 24)) W := h.2.2.2.2
        have hc : Calls Tryd.prog 5 #[] W fun e w' => e = .returned (.bool true) ∧ Below W.heap.size W w' := awake07_any W (hL8.below hs)
        exact hc.mono fun e w' ⟨he, hb⟩ => ⟨he, LN _ (low_trans hs hb)⟩
      have hk9 : S07f l a w5 w8 (w8.alloc (.cells #[.bool a.v6, .int .u64 a.hi, .int .u64 a.lo] 24)) := LN _ (Below.refl _ _)
      obtain ⟨y0, y1, y2, y3, hsz⟩ := id hk9
      clear hok hrx
      go_wp2_with fail
      (with_reducible refine (L1.out _ hk9).mono ?_)
      rintro e w10 ⟨rfl, hk10⟩
      obtain ⟨q0_w10, q1_w10, q2_w10, q3_w10, hs_w10⟩ := id hk10
      go_wp2_with fail
      (with_reducible refine (L9.out _ hk10).mono ?_)
      rintro e w11 ⟨rfl, hk11⟩
      obtain ⟨q0_w11, q1_w11, q2_w11, q3_w11, hs_w11⟩ := id hk11
      go_wp2_with fail
      go_ret
      exact ⟨rfl, ((Below.refl _ _).alloc (Nat.le_refl _) _).trans ((low_trans hs08 hk11.2.2.2.2).mono (by simp))⟩
set_option maxHeartbeats 16000000 in
theorem cback_no (w : World) (n : Net) (hn : n.ok) (l : List UInt8) (hl : l.length ≤ 9223372036854775807) (hL : Lens w) (hr : rightN n = false) :
    Calls Tryd.prog 4 #[.agg #[.bool n.a.v6, .int .u64 n.a.hi, .int .u64 n.a.lo, .int .i64 n.n], .string ⟨l.toArray⟩] w fun e w' => e = .returned (.bool true) ∧ Below w.heap.size w w' := by
  have hL0 := hL.below ((Below.refl w.heap.size w).alloc (Nat.le_refl _) (.cells #[.bool n.a.v6, .int .u64 n.a.hi, .int .u64 n.a.lo, .int .i64 n.n] 26))
  have T1 := Lib.hid (fun W => textN_any n W hn)
  have TL := textN_len hn
  have P1 := Lib.hid (parseN_any (textN n))
  unfold ParseN at P1
  rw [textN_no hr, okN_nil, show parseN [] = zero from parseN_no okN_nil] at P1
  simp only [zero] at P1
  rw [textN_no hr] at T1
  have RI := fun W => rightN_any n W hn
  rw [hr] at RI
  clear hr
  go_enter Tryd.func4, Tryd.ntmps4
  go_wp2_with fail
  (with_reducible refine (T1.out _).mono ?_)
  rintro e w1 ⟨rfl, hb1⟩
  go_wp2_with fail
  (with_reducible refine (P1.out _ (by first | omega | simp) (hL0.below hb1)).mono ?_)
  rintro e w2 ⟨rfl, hb2⟩
  have hs02 : Stays (w.alloc (.cells #[.bool n.a.v6, .int .u64 n.a.hi, .int .u64 n.a.lo, .int .i64 n.n] 26)) (w2.alloc (.cells #[.bool false, .int .u64 0, .int .u64 0, .int .i64 0] 26)) := (low_trans hb1 hb2).alloc (low_trans hb1 hb2).size _
  have hL3 := hL0.below hs02
  clear T1 P1 hb1 hb2
  by_cases h10 : 1000 < l.length
  · have IN : ∀ w', Stays (w2.alloc (.cells #[.bool false, .int .u64 0, .int .u64 0, .int .i64 0] 26)) w' → S07d n zero w w2 w' := fun w' h => ⟨Ci.cells_left h (Ci.cells_left hs02 (cell_new4 _ _ _ _ _ _).1), Ci.cells_left h (Ci.cells_left hs02 (cell_new4 _ _ _ _ _ _).2.1), Ci.cells_left h (Ci.cells_left hs02 (cell_new4 _ _ _ _ _ _).2.2.1), Ci.cells_left h (Ci.cells_left hs02 (cell_new4 _ _ _ _ _ _).2.2.2), Ci.cells_left h (cell_new4 _ _ _ _ _ _).1, Ci.cells_left h (cell_new4 _ _ _ _ _ _).2.1, Ci.cells_left h (cell_new4 _ _ _ _ _ _).2.2.1, Ci.cells_left h (cell_new4 _ _ _ _ _ _).2.2.2, h⟩
    have K1 : Hid (∀ W, S07d n zero w w2 W → Calls Tryd.prog 10 #[.agg #[.bool n.a.v6, .int .u64 n.a.hi, .int .u64 n.a.lo, .int .i64 n.n]] W fun e w' => e = .returned (.bool false) ∧ S07d n zero w w2 w') := by
      intro W h
      have hs : Stays (w2.alloc (.cells #[.bool false, .int .u64 0, .int .u64 0, .int .i64 0] 26)) W := h.2.2.2.2.2.2.2.2
      have hc : Calls Tryd.prog 10 #[.agg #[.bool n.a.v6, .int .u64 n.a.hi, .int .u64 n.a.lo, .int .i64 n.n]] W fun e w' => e = .returned (.bool false) ∧ Below W.heap.size W w' := RI W
      exact hc.mono fun e w' ⟨he, hb⟩ => ⟨he, IN _ (low_trans hs hb)⟩
    have K9 : Hid (∀ W, S07d n zero w w2 W → Calls Tryd.prog 5 #[] W fun e w' => e = .returned (.bool true) ∧ S07d n zero w w2 w') := by
      intro W h
      have hs : Stays (w2.alloc (.cells #[.bool false, .int .u64 0, .int .u64 0, .int .i64 0] 26)) W := h.2.2.2.2.2.2.2.2
      have hc : Calls Tryd.prog 5 #[] W fun e w' => e = .returned (.bool true) ∧ Below W.heap.size W w' := awake07_any W (hL3.below hs)
      exact hc.mono fun e w' ⟨he, hb⟩ => ⟨he, IN _ (low_trans hs hb)⟩
    have hk0 : S07d n zero w w2 (w2.alloc (.cells #[.bool false, .int .u64 0, .int .u64 0, .int .i64 0] 26)) := IN _ (Below.refl _ _)
    obtain ⟨c0, c1, c2, c3, c4, c5, c6, c7, hsx⟩ := id hk0
    go_wp2_with fail
    (with_reducible refine (K1.out _ hk0).mono ?_)
    rintro e w3 ⟨rfl, hk3⟩
    obtain ⟨q0_w3, q1_w3, q2_w3, q3_w3, q4_w3, q5_w3, q6_w3, q7_w3, hs_w3⟩ := id hk3
    go_wp2_with fail
    (with_reducible refine (K9.out _ hk3).mono ?_)
    rintro e w4 ⟨rfl, hk4⟩
    obtain ⟨q0_w4, q1_w4, q2_w4, q3_w4, q4_w4, q5_w4, q6_w4, q7_w4, hs_w4⟩ := id hk4
    go_wp2_with fail
    go_ret
    exact ⟨rfl, ((Below.refl _ _).alloc (Nat.le_refl _) _).trans ((low_trans hs02 hk4.2.2.2.2.2.2.2.2).mono (by simp))⟩
  · have IN : ∀ w', Stays (w2.alloc (.cells #[.bool false, .int .u64 0, .int .u64 0, .int .i64 0] 26)) w' → S07d n zero w w2 w' := fun w' h => ⟨Ci.cells_left h (Ci.cells_left hs02 (cell_new4 _ _ _ _ _ _).1), Ci.cells_left h (Ci.cells_left hs02 (cell_new4 _ _ _ _ _ _).2.1), Ci.cells_left h (Ci.cells_left hs02 (cell_new4 _ _ _ _ _ _).2.2.1), Ci.cells_left h (Ci.cells_left hs02 (cell_new4 _ _ _ _ _ _).2.2.2), Ci.cells_left h (cell_new4 _ _ _ _ _ _).1, Ci.cells_left h (cell_new4 _ _ _ _ _ _).2.1, Ci.cells_left h (cell_new4 _ _ _ _ _ _).2.2.1, Ci.cells_left h (cell_new4 _ _ _ _ _ _).2.2.2, h⟩
    have K1 : Hid (∀ W, S07d n zero w w2 W → Calls Tryd.prog 10 #[.agg #[.bool n.a.v6, .int .u64 n.a.hi, .int .u64 n.a.lo, .int .i64 n.n]] W fun e w' => e = .returned (.bool false) ∧ S07d n zero w w2 w') := by
      intro W h
      have hs : Stays (w2.alloc (.cells #[.bool false, .int .u64 0, .int .u64 0, .int .i64 0] 26)) W := h.2.2.2.2.2.2.2.2
      have hc : Calls Tryd.prog 10 #[.agg #[.bool n.a.v6, .int .u64 n.a.hi, .int .u64 n.a.lo, .int .i64 n.n]] W fun e w' => e = .returned (.bool false) ∧ Below W.heap.size W w' := RI W
      exact hc.mono fun e w' ⟨he, hb⟩ => ⟨he, IN _ (low_trans hs hb)⟩
    have K2 : Hid (∀ W, S07d n zero w w2 W → Calls Tryd.prog 8 #[.string ⟨l.toArray⟩] W fun e w' => e = .returned (.tuple #[.agg #[.bool (parseN l).a.v6, .int .u64 (parseN l).a.hi, .int .u64 (parseN l).a.lo, .int .i64 (parseN l).n], .bool (okN l)]) ∧ S07d n zero w w2 w') := by
      intro W h
      have hs : Stays (w2.alloc (.cells #[.bool false, .int .u64 0, .int .u64 0, .int .i64 0] 26)) W := h.2.2.2.2.2.2.2.2
      have hc : Calls Tryd.prog 8 #[.string ⟨l.toArray⟩] W fun e w' => e = .returned (.tuple #[.agg #[.bool (parseN l).a.v6, .int .u64 (parseN l).a.hi, .int .u64 (parseN l).a.lo, .int .i64 (parseN l).n], .bool (okN l)]) ∧ Below W.heap.size W w' := parseN_any l W (by omega) (hL3.below hs)
      exact hc.mono fun e w' ⟨he, hb⟩ => ⟨he, IN _ (low_trans hs hb)⟩
    have hk0 : S07d n zero w w2 (w2.alloc (.cells #[.bool false, .int .u64 0, .int .u64 0, .int .i64 0] 26)) := IN _ (Below.refl _ _)
    obtain ⟨c0, c1, c2, c3, c4, c5, c6, c7, hsx⟩ := id hk0
    go_wp2_with fail
    (with_reducible refine (K1.out _ hk0).mono ?_)
    rintro e w3 ⟨rfl, hk3⟩
    obtain ⟨q0_w3, q1_w3, q2_w3, q3_w3, q4_w3, q5_w3, q6_w3, q7_w3, hs_w3⟩ := id hk3
    go_wp2_with fail
    cases hok : okN l
    · rw [hok] at K2
      have EZ : ∀ W, (binOp .eql 26 (.agg #[.bool (parseN l).a.v6, .int .u64 (parseN l).a.hi, .int .u64 (parseN l).a.lo, .int .i64 (parseN l).n]) (.agg #[.bool false, .int .u64 0, .int .u64 0, .int .i64 0])).run Tryd.prog W = .ok (.bool true) W := fun W => by rw [parseN_no hok]; exact eqNet zero zero W
      (with_reducible refine (K2.out _ hk3).mono ?_)
      rintro e w5 ⟨rfl, hk5⟩
      have hs05 : Stays (w.alloc (.cells #[.bool n.a.v6, .int .u64 n.a.hi, .int .u64 n.a.lo, .int .i64 n.n] 26)) (w5.alloc (.cells #[.bool (parseN l).a.v6, .int .u64 (parseN l).a.hi, .int .u64 (parseN l).a.lo, .int .i64 (parseN l).n] 26)) := (low_trans hs02 hk5.2.2.2.2.2.2.2.2).alloc (low_trans hs02 hk5.2.2.2.2.2.2.2.2).size _
      have hL5 := hL0.below hs05
      clear hok
      have JN : ∀ w', Stays (w5.alloc (.cells #[.bool (parseN l).a.v6, .int .u64 (parseN l).a.hi, .int .u64 (parseN l).a.lo, .int .i64 (parseN l).n] 26)) w' → S07e l w5 w' := fun w' h => ⟨Ci.cells_left h (cell_new4 _ _ _ _ _ _).1, Ci.cells_left h (cell_new4 _ _ _ _ _ _).2.1, Ci.cells_left h (cell_new4 _ _ _ _ _ _).2.2.1, Ci.cells_left h (cell_new4 _ _ _ _ _ _).2.2.2, h⟩
      have J9 : Hid (∀ W, S07e l w5 W → Calls Tryd.prog 5 #[] W fun e w' => e = .returned (.bool true) ∧ S07e l w5 w') := by
        intro W h
        have hs : Stays (w5.alloc (.cells #[.bool (parseN l).a.v6, .int .u64 (parseN l).a.hi, .int .u64 (parseN l).a.lo, .int .i64 (parseN l).n] 26)) W := h.2.2.2.2
        have hc : Calls Tryd.prog 5 #[] W fun e w' => e = .returned (.bool true) ∧ Below W.heap.size W w' := awake07_any W (hL5.below hs)
        exact hc.mono fun e w' ⟨he, hb⟩ => ⟨he, JN _ (low_trans hs hb)⟩
      have hk6 : S07e l w5 (w5.alloc (.cells #[.bool (parseN l).a.v6, .int .u64 (parseN l).a.hi, .int .u64 (parseN l).a.lo, .int .i64 (parseN l).n] 26)) := JN _ (Below.refl _ _)
      obtain ⟨x0, x1, x2, x3, hsy⟩ := id hk6
      go_wp2_with fail
      (with_reducible refine (J9.out _ hk6).mono ?_)
      rintro e w7 ⟨rfl, hk7⟩
      obtain ⟨q0_w7, q1_w7, q2_w7, q3_w7, hs_w7⟩ := id hk7
      go_wp2_with fail
      go_ret
      exact ⟨rfl, ((Below.refl _ _).alloc (Nat.le_refl _) _).trans ((low_trans hs05 hk7.2.2.2.2).mono (by simp))⟩
    · rw [hok] at K2
      (with_reducible refine (K2.out _ hk3).mono ?_)
      rintro e w5 ⟨rfl, hk5⟩
      have hs05 : Stays (w.alloc (.cells #[.bool n.a.v6, .int .u64 n.a.hi, .int .u64 n.a.lo, .int .i64 n.n] 26)) (w5.alloc (.cells #[.bool (parseN l).a.v6, .int .u64 (parseN l).a.hi, .int .u64 (parseN l).a.lo, .int .i64 (parseN l).n] 26)) := (low_trans hs02 hk5.2.2.2.2.2.2.2.2).alloc (low_trans hs02 hk5.2.2.2.2.2.2.2.2).size _
      have hL5 := hL0.below hs05
      have hrx := parseN_right hok
      obtain ⟨a, ha⟩ : ∃ a, a = parseA (textN (parseN l)) := ⟨_, rfl⟩
      have JN : ∀ w', Stays (w5.alloc (.cells #[.bool (parseN l).a.v6, .int .u64 (parseN l).a.hi, .int .u64 (parseN l).a.lo, .int .i64 (parseN l).n] 26)) w' → S07e l w5 w' := fun w' h => ⟨Ci.cells_left h (cell_new4 _ _ _ _ _ _).1, Ci.cells_left h (cell_new4 _ _ _ _ _ _).2.1, Ci.cells_left h (cell_new4 _ _ _ _ _ _).2.2.1, Ci.cells_left h (cell_new4 _ _ _ _ _ _).2.2.2, h⟩
      have J1 : Hid (∀ W, S07e l w5 W → Calls Tryd.prog 16 #[.agg #[.bool (parseN l).a.v6, .int .u64 (parseN l).a.hi, .int .u64 (parseN l).a.lo, .int .i64 (parseN l).n]] W fun e w' => e = .returned (.string ⟨(textN (parseN l)).toArray⟩) ∧ S07e l w5 w') := by
        intro W h
        have hs : Stays (w5.alloc (.cells #[.bool (parseN l).a.v6, .int .u64 (parseN l).a.hi, .int .u64 (parseN l).a.lo, .int .i64 (parseN l).n] 26)) W := h.2.2.2.2
        have hc : Calls Tryd.prog 16 #[.agg #[.bool (parseN l).a.v6, .int .u64 (parseN l).a.hi, .int .u64 (parseN l).a.lo, .int .i64 (parseN l).n]] W fun e w' => e = .returned (.string ⟨(textN (parseN l)).toArray⟩) ∧ Below W.heap.size W w' := textN_any (parseN l) W (parseN_ok l)
        exact hc.mono fun e w' ⟨he, hb⟩ => ⟨he, JN _ (low_trans hs hb)⟩
      have J2 : Hid (∀ W, S07e l w5 W → Calls Tryd.prog 18 #[.string ⟨(textN (parseN l)).toArray⟩] W fun e w' => e = .returned (.tuple #[.agg #[.bool a.v6, .int .u64 a.hi, .int .u64 a.lo], .bool false]) ∧ S07e l w5 w') := by
        intro W h
        have hs : Stays (w5.alloc (.cells #[.bool (parseN l).a.v6, .int .u64 (parseN l).a.hi, .int .u64 (parseN l).a.lo, .int .i64 (parseN l).n] 26)) W := h.2.2.2.2
        have hc : Calls Tryd.prog 18 #[.string ⟨(textN (parseN l)).toArray⟩] W fun e w' => e = .returned (.tuple #[.agg #[.bool a.v6, .int .u64 a.hi, .int .u64 a.lo], .bool false]) ∧ Below W.heap.size W w' := by rw [ha]; exact okA_textN l W hok
        exact hc.mono fun e w' ⟨he, hb⟩ => ⟨he, JN _ (low_trans hs hb)⟩
      have hk6 : S07e l w5 (w5.alloc (.cells #[.bool (parseN l).a.v6, .int .u64 (parseN l).a.hi, .int .u64 (parseN l).a.lo, .int .i64 (parseN l).n] 26)) := JN _ (Below.refl _ _)
      obtain ⟨x0, x1, x2, x3, hsy⟩ := id hk6
      clear ha
      go_wp2_with fail
      (with_reducible refine (J1.out _ hk6).mono ?_)
      rintro e w7 ⟨rfl, hk7⟩
      obtain ⟨q0_w7, q1_w7, q2_w7, q3_w7, hs_w7⟩ := id hk7
      go_wp2_with fail
      (with_reducible refine (J2.out _ hk7).mono ?_)
      rintro e w8 ⟨rfl, hk8⟩
      have hs58 : Stays (w5.alloc (.cells #[.bool (parseN l).a.v6, .int .u64 (parseN l).a.hi, .int .u64 (parseN l).a.lo, .int .i64 (parseN l).n] 26)) (w8.alloc (.cells #[.bool a.v6, .int .u64 a.hi, .int .u64 a.lo] 24)) := Below.alloc hk8.2.2.2.2 (Below.size hk8.2.2.2.2) _
      have hs08 := low_trans hs05 hs58
      have hL8 := hL0.below hs08
      have LN : ∀ w', Stays (w8.alloc (.cells #[.bool a.v6, .int .u64 a.hi, .int .u64 a.lo] 24)) w' → S07f l a w5 w8 w' := fun w' h => ⟨Ci.cells_left h (Ci.cells_left hs58 (cell_new4 _ _ _ _ _ _).1), Ci.cells_left h (Ci.cells_left hs58 (cell_new4 _ _ _ _ _ _).2.1), Ci.cells_left h (Ci.cells_left hs58 (cell_new4 _ _ _ _ _ _).2.2.1), Ci.cells_left h (Ci.cells_left hs58 (cell_new4 _ _ _ _ _ _).2.2.2), h⟩
      have L1 : Hid (∀ W, S07f l a w5 w8 W → Calls Tryd.prog 10 #[.agg #[.bool (parseN l).a.v6, .int .u64 (parseN l).a.hi, .int .u64 (parseN l).a.lo, .int .i64 (parseN l).n]] W fun e w' => e = .returned (.bool true) ∧ S07f l a w5 w8 w') := by
        intro W h
        have hs : Stays (w8.alloc (.cells #[.bool a.v6, .int .u64 a.hi, .int .u64 a.lo] 24)) W := h.2.2.2.2
        have hc : Calls Tryd.prog 10 #[.agg #[.bool (parseN l).a.v6, .int .u64 (parseN l).a.hi, .int .u64 (parseN l).a.lo, .int .i64 (parseN l).n]] W fun e w' => e = .returned (.bool true) ∧ Below W.heap.size W w' := by have h := rightN_any (parseN l) W (parseN_ok l); rwa [hrx] at h
        exact hc.mono fun e w' ⟨he, hb⟩ => ⟨he, LN _ (low_trans hs hb)⟩
      have L9 : Hid (∀ W, S07f l a w5 w8 W → Calls Tryd.prog 5 #[] W fun e w' => e = .returned (.bool true) ∧ S07f l a w5 w8 w') := by
        intro W h
        have hs : Stays (w8.alloc (.cells #[.bool a.v6, .int .u64 a.hi, .int .u64 a.lo] 24)) W := h.2.2.2.2
        have hc : Calls Tryd.prog 5 #[] W fun e w' => e = .returned (.bool true) ∧ Below W.heap.size W w' := awake07_any W (hL8.below hs)
        exact hc.mono fun e w' ⟨he, hb⟩ => ⟨he, LN _ (low_trans hs hb)⟩
      have hk9 : S07f l a w5 w8 (w8.alloc (.cells #[.bool a.v6, .int .u64 a.hi, .int .u64 a.lo] 24)) := LN _ (Below.refl _ _)
      obtain ⟨y0, y1, y2, y3, hsz⟩ := id hk9
      clear hok hrx
      go_wp2_with fail
      (with_reducible refine (L1.out _ hk9).mono ?_)
      rintro e w10 ⟨rfl, hk10⟩
      obtain ⟨q0_w10, q1_w10, q2_w10, q3_w10, hs_w10⟩ := id hk10
      go_wp2_with fail
      (with_reducible refine (L9.out _ hk10).mono ?_)
      rintro e w11 ⟨rfl, hk11⟩
      obtain ⟨q0_w11, q1_w11, q2_w11, q3_w11, hs_w11⟩ := id hk11
      go_wp2_with fail
      go_ret
      exact ⟨rfl, ((Below.refl _ _).alloc (Nat.le_refl _) _).trans ((low_trans hs08 hk11.2.2.2.2).mono (by simp))⟩
theorem cidrBack_walk (w : World) (n : Net) (hn : n.ok) (l : List UInt8) (hl : l.length ≤ 9223372036854775807) (hL : Lens w) :
    Calls Tryd.prog 4 #[.agg #[.bool n.a.v6, .int .u64 n.a.hi, .int .u64 n.a.lo, .int .i64 n.n], .string ⟨l.toArray⟩] w fun e w' => e = .returned (.bool true) ∧ Below w.heap.size w w' := by
  cases hr : rightN n
  · exact cback_no w n hn l hl hL hr
  · exact cback_yes w n hn l hl hL hr
namespace cidrBack
theorem contract (H : Type) (enc : TypeId × Value → H) (W : World) (base : Nat) (args : Array Value) (ds gs : List (DataW H)) (before : List MemPlace)
    (hval0 : ∀ (j : Nat) t v, Tryd.f4.params[j]? = some t → args[j]? = some v → Value.okWide Tryd.prog W .any base t v)
    (hW : DataW.Whole enc Tryd.prog Tryd.f4.params.toList Rows.cidrBackSpec.vars false W args.toList ds gs before) (hSh : W.ShapedOpen Tryd.prog) :
    Calls Tryd.prog 4 args W fun e W' => ∃ v, e = .returned v ∧ Rows.cidrBackSpec.post enc Tryd.prog Tryd.f4 false true false false W args v W' := by
  have hval : ∀ (j : Nat) t v, Tryd.f4.params[j]? = some t → args[j]? = some v → Value.okWide Tryd.prog W .any base t v := hval0
  have hW' := hW
  obtain ⟨p, q, hA0, hV, _, _, _⟩ := hW
  have hA : DataW.TrodAll enc Tryd.prog W 0 (fun _ => true) true Tryd.f4.params.toList args.toList ds p := hA0
  rw [Tryd.params4] at hA hval
  obtain ⟨v0, vs0, d0, ds0, p0, q0, hargs, rfl, rfl, h0, r0⟩ := trodAll_cons hA
  obtain ⟨v1, vs1, d1, ds1, p1, q1, rfl, rfl, rfl, h1, r1⟩ := trodAll_cons r0
  obtain ⟨rfl, rfl, rfl⟩ := trodAll_nil r1
  obtain rfl : args = #[v0, v1] := by cases args; simp_all
  obtain ⟨rfl, rfl⟩ := trodVars_none hV
  obtain ⟨a0, z0, rfl, rfl, rfl⟩ := open_net (ta := 24) (tb := 4) (tu := 22) (ti := 3) Tryd.underlying26 rfl rfl Tryd.underlying24 (by kernel_rfl) rfl rfl (by kernel_rfl) (by kernel_rfl) (by kernel_rfl) rfl rfl rfl Tryd.underlying4 Tryd.underlying22 Tryd.underlying3 (hval 0 26 v0 rfl rfl) h0
  obtain ⟨b1, rfl, rfl, rfl, w1⟩ := ChangeMaps.open_string Tryd.underlying9 (hval 1 9 v1 rfl rfl) h1
  obtain ⟨a1, rfl⟩ : ∃ a : List UInt8, b1 = ⟨a.toArray⟩ := ⟨b1.data.toList, (str_same _).symm⟩
  have z1 : a1.length ≤ 9223372036854775807 := by unfold maxLen at w1; rw [← len_size, str_back] at w1; exact w1
  clear hA0 hval0
  refine (cidrBack_walk W a0 z0 a1 (by omega) (V6.Lens.start hSh)).mono fun e W' ⟨he, hg⟩ => ?_
  subst he
  exact ⟨_, rfl, post_law laidOut (by kernel_rfl) (by kernel_rfl) Tryd.underlying4 rfl hW' rfl rfl rfl hg⟩
set_option maxRecDepth 100000 in
theorem lifted (os : Os) (started : os.Started) (H : Type) (enc : TypeId × Value → H) (F : Stop.Interp) :
    ReturnsInHanded {} Tryd.checked os 4 .any ((OpenSpec.ofChange Rows.cidrBackSpec).preRow enc Tryd.prog Tryd.f4 Rows.cidrBackRow.domain false Rows.cidrBackRow.laid) (((OpenSpec.ofChange Rows.cidrBackSpec).at F).post enc Tryd.prog Tryd.f4 false true false false) := by
  refine returnsInHanded_of_row (C := Tryd.checked) (s := OpenSpec.ofChange Rows.cidrBackSpec) own started (by kernel_rfl) Tryd.func4
    (witness_laid (enc := enc) (C := Tryd.checked) (s := OpenSpec.ofChange Rows.cidrBackSpec) (laid := Rows.cidrBackRow.laid) #[.agg #[.bool false, .int .u64 0, .int .u64 0, .int .i64 0], .string ByteArray.empty] (World.shaped_of_ZipB (by kernel_rfl) (by kernel_rfl)) (by kernel_rfl)
      (OpenSpec.preRow_of_cond 8 (x := ([.agg [.agg [.lit (.bool false), .lit (.int .u64 0), .lit (.int .u64 0)], .lit (.int .i64 0)], .lit (.string [])], [], [])) (by kernel_rfl) (by kernel_rfl) (fun k hk => by cases hk) (by kernel_rfl)
        (by rw [MakeChecks.laidMetH_plain _ _ _ (by kernel_rfl)]; exact laidMet_laidAll _ (by kernel_rfl) (by kernel_rfl)))) ?_
  intro W base args ds gs before hval hW _ hcond _ _ hsh _
  exact contract H enc W base args ds gs before hval hW hsh
theorem over : Rows.cidrBackRow.holds Tryd.pinned (OpenSpec.ofChange Rows.cidrBackSpec) :=
  OpenClaim.holds_of_cond 4 Tryd.f4 rfl rfl rfl rfl rfl rfl rfl ⟨rfl, rfl, rfl, rfl, rfl⟩ rfl rfl rfl rfl rfl (by kernel_rfl) Tryd.func4 (by kernel_rfl)
    (of_decide_eq_true (by kernel_rfl)) (by unfold Func.isWrapper; first | (rw [if_pos (by decide +kernel)]; kernel_rfl) | (rw [if_neg (by decide +kernel)]; exact ⟨rfl, rfl⟩))
    (fun os started H enc _ F => by rw [OpenClaim.pre_eq_preRow]; exact lifted os started H enc F)
/-- ████ THE STATEMENT ████ -/
theorem proved : Rows.CidrBackCardSaid :=
  Claim7.holds_tied_plain_at .later [] Rows.cidrBackCard.laidKinds Rows.cidrBackCard.laidTests Rows.cidrBackCard.stood.harness Rows.cidrBackCard.stood.looks over (fun _ h => by cases h) (by kernel_rfl) (fun _ h => by cases h) cidrBack_row_tie rfl ⟨rfl, rfl⟩ (by kernel_rfl) rfl
    (fun f fn hf hfn => by
      obtain rfl : f = 4 := Option.some.inj ((show Tryd.prog.funcNamed Rows.cidrBackRow.func = some 4 by kernel_rfl).symm.trans hf) |>.symm
      obtain rfl : fn = Tryd.f4 := (Option.some.inj (Tryd.func4.symm.trans hfn)).symm
      exact ⟨by kernel_rfl, no_standin (by kernel_rfl)⟩)
    (by kernel_rfl)
end cidrBack
end Go.Proofs.YtoanbaaonkckmaaDoor
