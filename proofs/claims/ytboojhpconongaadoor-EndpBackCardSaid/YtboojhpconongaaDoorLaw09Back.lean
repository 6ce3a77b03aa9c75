/- The second statement of layer 9, proved: an end that is right is read of its text, two are one just if their texts are, and what is read is right; for all ends and texts, under the row's listed variables. -/
import Derived.Test.YtboojhpconongaaDoorLaw09
import Derived.Test.YtboojhpconongaaDoorCls
namespace Go.Proofs.YtboojhpconongaaDoor
set_option maxRecDepth 100000
open Go.ChangeShapes Go.WideShapes Go.ChangeAt Go.RowKit
open Words Dec V4 V6 Ad Ci En
set_option linter.unusedVariables false
abbrev S09d (x y m : Endp) (w w2 : World) (w' : World) : Prop := w'.cell? ⟨w.heap.size, 0, none⟩ = some (.bool x.a.v6) ∧ w'.cell? ⟨w.heap.size, 1, none⟩ = some (.int .u64 x.a.hi) ∧ w'.cell? ⟨w.heap.size, 2, none⟩ = some (.int .u64 x.a.lo) ∧ w'.cell? ⟨w.heap.size, 3, none⟩ = some (.int .i64 x.n) ∧ w'.cell? ⟨w.heap.size + 1, 0, none⟩ = some (.bool y.a.v6) ∧ w'.cell? ⟨w.heap.size + 1, 1, none⟩ = some (.int .u64 y.a.hi) ∧ w'.cell? ⟨w.heap.size + 1, 2, none⟩ = some (.int .u64 y.a.lo) ∧ w'.cell? ⟨w.heap.size + 1, 3, none⟩ = some (.int .i64 y.n) ∧ w'.cell? ⟨w2.heap.size, 0, none⟩ = some (.bool m.a.v6) ∧ w'.cell? ⟨w2.heap.size, 1, none⟩ = some (.int .u64 m.a.hi) ∧ w'.cell? ⟨w2.heap.size, 2, none⟩ = some (.int .u64 m.a.lo) ∧ w'.cell? ⟨w2.heap.size, 3, none⟩ = some (.int .i64 m.n) ∧ Stays (w2.alloc (.cells #[.bool m.a.v6, .int .u64 m.a.hi, .int .u64 m.a.lo, .int .i64 m.n] 26)) w'
abbrev S09e (l : List UInt8) (w5 : World) (w' : World) : Prop := w'.cell? ⟨w5.heap.size, 0, none⟩ = some (.bool (parseE l).a.v6) ∧ w'.cell? ⟨w5.heap.size, 1, none⟩ = some (.int .u64 (parseE l).a.hi) ∧ w'.cell? ⟨w5.heap.size, 2, none⟩ = some (.int .u64 (parseE l).a.lo) ∧ w'.cell? ⟨w5.heap.size, 3, none⟩ = some (.int .i64 (parseE l).n) ∧ Stays (w5.alloc (.cells #[.bool (parseE l).a.v6, .int .u64 (parseE l).a.hi, .int .u64 (parseE l).a.lo, .int .i64 (parseE l).n] 26)) w'
set_option maxHeartbeats 16000000 in
theorem eback_both (w : World) (x : Endp) (hx : x.ok) (y : Endp) (hy : y.ok) (l : List UInt8) (hl : l.length ≤ 9223372036854775807) (hL : Lens w) (hr : rightE x = true) (hq : rightE y = true) :
    Calls Tryd.prog 4 #[.agg #[.bool x.a.v6, .int .u64 x.a.hi, .int .u64 x.a.lo, .int .i64 x.n], .agg #[.bool y.a.v6, .int .u64 y.a.hi, .int .u64 y.a.lo, .int .i64 y.n], .string ⟨l.toArray⟩] w fun e w' => e = .returned (.bool true) ∧ Below w.heap.size w w' := by
  have hL0 := hL.below (two_low w (.cells #[.bool x.a.v6, .int .u64 x.a.hi, .int .u64 x.a.lo, .int .i64 x.n] 26) (.cells #[.bool y.a.v6, .int .u64 y.a.hi, .int .u64 y.a.lo, .int .i64 y.n] 26))
  have T1 := Lib.hid (fun W => textE_any x W hx)
  have TL := textE_len hx
  have P1 := Lib.hid (parseE_any (textE x))
  unfold ParseE at P1
  rw [(backE hx hr).1, (backE hx hr).2] at P1
  have RI := fun W => rightE_any x W hx
  rw [hr] at RI
  have RJ := fun W => rightE_any y W hy
  rw [hq] at RJ
  have NQ : ∀ W, (binOp .neq 26 (.agg #[.bool x.a.v6, .int .u64 x.a.hi, .int .u64 x.a.lo, .int .i64 x.n]) (.agg #[.bool x.a.v6, .int .u64 x.a.hi, .int .u64 x.a.lo, .int .i64 x.n])).run Tryd.prog W = .ok (.bool false) W := fun W => by rw [neqEnd, same_selfE]; rfl
  have EQ : ∀ W, (binOp .eql 26 (.agg #[.bool x.a.v6, .int .u64 x.a.hi, .int .u64 x.a.lo, .int .i64 x.n]) (.agg #[.bool y.a.v6, .int .u64 y.a.hi, .int .u64 y.a.lo, .int .i64 y.n])).run Tryd.prog W = .ok (.bool (sameE x y)) W := fun W => eqEnd x y W
  have TQ : (textE x == textE y) = sameE x y := by rw [Bool.eq_iff_iff, beq_iff_eq, sameE_iff]; exact textE_inj hx hy hr hq
  clear hr hq
  go_enter Tryd.func4, Tryd.ntmps4
  go_wp2_with fail
  (with_reducible refine (T1.out _).mono ?_)
  rintro e w1 ⟨rfl, hb1⟩
  go_wp2_with fail
  (with_reducible refine (P1.out _ (by first | omega | simp) (hL0.below hb1)).mono ?_)
  rintro e w2 ⟨rfl, hb2⟩
  have hs02 : Stays ((w.alloc (.cells #[.bool x.a.v6, .int .u64 x.a.hi, .int .u64 x.a.lo, .int .i64 x.n] 26)).alloc (.cells #[.bool y.a.v6, .int .u64 y.a.hi, .int .u64 y.a.lo, .int .i64 y.n] 26)) (w2.alloc (.cells #[.bool x.a.v6, .int .u64 x.a.hi, .int .u64 x.a.lo, .int .i64 x.n] 26)) := (low_trans hb1 hb2).alloc (low_trans hb1 hb2).size _
  have hL3 := hL0.below hs02
  clear T1 P1 hb1 hb2
  obtain ⟨n0, n1, n2, n3, m0, m1, m2, m3⟩ := two_ends w x y
  have IN : ∀ w', Stays (w2.alloc (.cells #[.bool x.a.v6, .int .u64 x.a.hi, .int .u64 x.a.lo, .int .i64 x.n] 26)) w' → S09d x y x w w2 w' := fun w' h => ⟨Ci.cells_left h (Ci.cells_left hs02 n0), Ci.cells_left h (Ci.cells_left hs02 n1), Ci.cells_left h (Ci.cells_left hs02 n2), Ci.cells_left h (Ci.cells_left hs02 n3), Ci.cells_left h (Ci.cells_left hs02 m0), Ci.cells_left h (Ci.cells_left hs02 m1), Ci.cells_left h (Ci.cells_left hs02 m2), Ci.cells_left h (Ci.cells_left hs02 m3), Ci.cells_left h (cell_new4 _ _ _ _ _ _).1, Ci.cells_left h (cell_new4 _ _ _ _ _ _).2.1, Ci.cells_left h (cell_new4 _ _ _ _ _ _).2.2.1, Ci.cells_left h (cell_new4 _ _ _ _ _ _).2.2.2, h⟩
  have K1 : Hid (∀ W, S09d x y x w w2 W → Calls Tryd.prog 9 #[.agg #[.bool x.a.v6, .int .u64 x.a.hi, .int .u64 x.a.lo, .int .i64 x.n]] W fun e w' => e = .returned (.bool true) ∧ S09d x y x w w2 w') := by
    intro W h
    have hs : Stays (w2.alloc (.cells #[.bool x.a.v6, .int .u64 x.a.hi, .int .u64 x.a.lo, .int .i64 x.n] 26)) W := h.2.2.2.2.2.2.2.2.2.2.2.2
    have hc : Calls Tryd.prog 9 #[.agg #[.bool x.a.v6, .int .u64 x.a.hi, .int .u64 x.a.lo, .int .i64 x.n]] W fun e w' => e = .returned (.bool true) ∧ Below W.heap.size W w' := RI W
    exact hc.mono fun e w' ⟨he, hb⟩ => ⟨he, IN _ (low_trans hs hb)⟩
  have K2 : Hid (∀ W, S09d x y x w w2 W → Calls Tryd.prog 9 #[.agg #[.bool y.a.v6, .int .u64 y.a.hi, .int .u64 y.a.lo, .int .i64 y.n]] W fun e w' => e = .returned (.bool true) ∧ S09d x y x w w2 w') := by
    intro W h
    have hs : Stays (w2.alloc (.cells #[.bool x.a.v6, .int .u64 x.a.hi, .int .u64 x.a.lo, .int .i64 x.n] 26)) W := h.2.2.2.2.2.2.2.2.2.2.2.2
    have hc : Calls Tryd.prog 9 #[.agg #[.bool y.a.v6, .int .u64 y.a.hi, .int .u64 y.a.lo, .int .i64 y.n]] W fun e w' => e = .returned (.bool true) ∧ Below W.heap.size W w' := RJ W
    exact hc.mono fun e w' ⟨he, hb⟩ => ⟨he, IN _ (low_trans hs hb)⟩
  have K3 : Hid (∀ W, S09d x y x w w2 W → Calls Tryd.prog 11 #[.agg #[.bool x.a.v6, .int .u64 x.a.hi, .int .u64 x.a.lo, .int .i64 x.n]] W fun e w' => e = .returned (.string ⟨(textE x).toArray⟩) ∧ S09d x y x w w2 w') := by
    intro W h
    have hs : Stays (w2.alloc (.cells #[.bool x.a.v6, .int .u64 x.a.hi, .int .u64 x.a.lo, .int .i64 x.n] 26)) W := h.2.2.2.2.2.2.2.2.2.2.2.2
    have hc : Calls Tryd.prog 11 #[.agg #[.bool x.a.v6, .int .u64 x.a.hi, .int .u64 x.a.lo, .int .i64 x.n]] W fun e w' => e = .returned (.string ⟨(textE x).toArray⟩) ∧ Below W.heap.size W w' := textE_any x W hx
    exact hc.mono fun e w' ⟨he, hb⟩ => ⟨he, IN _ (low_trans hs hb)⟩
  have K4 : Hid (∀ W, S09d x y x w w2 W → Calls Tryd.prog 11 #[.agg #[.bool y.a.v6, .int .u64 y.a.hi, .int .u64 y.a.lo, .int .i64 y.n]] W fun e w' => e = .returned (.string ⟨(textE y).toArray⟩) ∧ S09d x y x w w2 w') := by
    intro W h
    have hs : Stays (w2.alloc (.cells #[.bool x.a.v6, .int .u64 x.a.hi, .int .u64 x.a.lo, .int .i64 x.n] 26)) W := h.2.2.2.2.2.2.2.2.2.2.2.2
    have hc : Calls Tryd.prog 11 #[.agg #[.bool y.a.v6, .int .u64 y.a.hi, .int .u64 y.a.lo, .int .i64 y.n]] W fun e w' => e = .returned (.string ⟨(textE y).toArray⟩) ∧ Below W.heap.size W w' := textE_any y W hy
    exact hc.mono fun e w' ⟨he, hb⟩ => ⟨he, IN _ (low_trans hs hb)⟩
  have K9 : Hid (∀ W, S09d x y x w w2 W → Calls Tryd.prog 6 #[] W fun e w' => e = .returned (.bool true) ∧ S09d x y x w w2 w') := by
    intro W h
    have hs : Stays (w2.alloc (.cells #[.bool x.a.v6, .int .u64 x.a.hi, .int .u64 x.a.lo, .int .i64 x.n] 26)) W := h.2.2.2.2.2.2.2.2.2.2.2.2
    have hc : Calls Tryd.prog 6 #[] W fun e w' => e = .returned (.bool true) ∧ Below W.heap.size W w' := awake09_any W (hL3.below hs)
    exact hc.mono fun e w' ⟨he, hb⟩ => ⟨he, IN _ (low_trans hs hb)⟩
  have hk0 : S09d x y x w w2 (w2.alloc (.cells #[.bool x.a.v6, .int .u64 x.a.hi, .int .u64 x.a.lo, .int .i64 x.n] 26)) := IN _ (Below.refl _ _)
  have JD : Hid (∀ W, S09d x y x w w2 W → S09d x y x w w2 W.drew) := Lib.hid fun W h => IN _ (low_drewN h.2.2.2.2.2.2.2.2.2.2.2.2 1)
  clear n0 n1 n2 n3 m0 m1 m2 m3
  have IN := Lib.hid IN
  obtain ⟨c0, c1, c2, c3, c4, c5, c6, c7, c8, c9, c10, c11, hsx⟩ := id hk0
  go_wp2_with fail
  (with_reducible refine (K1.out _ hk0).mono ?_)
  rintro e w3 ⟨rfl, hk3⟩
  obtain ⟨q0_w3, q1_w3, q2_w3, q3_w3, q4_w3, q5_w3, q6_w3, q7_w3, q8_w3, q9_w3, q10_w3, q11_w3, hs_w3⟩ := id hk3
  go_wp2_with fail
  clear c0 c1 c2 c3 c4 c5 c6 c7 c8 c9 c10 c11 hsx
  have hne : Nonempty (Cls (S09d x y x w w2)) := ⟨⟨_, hk3⟩⟩
  have f0 : ∀ n : Cls (S09d x y x w w2), n.w.cell? ⟨w.heap.size, 0, none⟩ = some (.bool x.a.v6) := fun n => n.h.1
  have f1 : ∀ n : Cls (S09d x y x w w2), n.w.cell? ⟨w.heap.size, 1, none⟩ = some (.int .u64 x.a.hi) := fun n => n.h.2.1
  have f2 : ∀ n : Cls (S09d x y x w w2), n.w.cell? ⟨w.heap.size, 2, none⟩ = some (.int .u64 x.a.lo) := fun n => n.h.2.2.1
  have f3 : ∀ n : Cls (S09d x y x w w2), n.w.cell? ⟨w.heap.size, 3, none⟩ = some (.int .i64 x.n) := fun n => n.h.2.2.2.1
  have f4 : ∀ n : Cls (S09d x y x w w2), n.w.cell? ⟨w.heap.size + 1, 0, none⟩ = some (.bool y.a.v6) := fun n => n.h.2.2.2.2.1
  have f5 : ∀ n : Cls (S09d x y x w w2), n.w.cell? ⟨w.heap.size + 1, 1, none⟩ = some (.int .u64 y.a.hi) := fun n => n.h.2.2.2.2.2.1
  have f6 : ∀ n : Cls (S09d x y x w w2), n.w.cell? ⟨w.heap.size + 1, 2, none⟩ = some (.int .u64 y.a.lo) := fun n => n.h.2.2.2.2.2.2.1
  have f7 : ∀ n : Cls (S09d x y x w w2), n.w.cell? ⟨w.heap.size + 1, 3, none⟩ = some (.int .i64 y.n) := fun n => n.h.2.2.2.2.2.2.2.1
  have f8 : ∀ n : Cls (S09d x y x w w2), n.w.cell? ⟨w2.heap.size, 0, none⟩ = some (.bool x.a.v6) := fun n => n.h.2.2.2.2.2.2.2.2.1
  have f9 : ∀ n : Cls (S09d x y x w w2), n.w.cell? ⟨w2.heap.size, 1, none⟩ = some (.int .u64 x.a.hi) := fun n => n.h.2.2.2.2.2.2.2.2.2.1
  have f10 : ∀ n : Cls (S09d x y x w w2), n.w.cell? ⟨w2.heap.size, 2, none⟩ = some (.int .u64 x.a.lo) := fun n => n.h.2.2.2.2.2.2.2.2.2.2.1
  have f11 : ∀ n : Cls (S09d x y x w w2), n.w.cell? ⟨w2.heap.size, 3, none⟩ = some (.int .i64 x.n) := fun n => n.h.2.2.2.2.2.2.2.2.2.2.2.1
  refine Cls.region (S09d x y x w w2) (by kernel_rfl) (by kernel_rfl) (IN.out _ (low_drewN hk3.2.2.2.2.2.2.2.2.2.2.2.2 1)) ?_
  repeat (go_big_quiet_step (first | (with_reducible exact Cls.call (K1.out _ (Cls.h _))) | (with_reducible exact Cls.call (K2.out _ (Cls.h _))) | (with_reducible exact Cls.call (K3.out _ (Cls.h _))) | (with_reducible exact Cls.call (K4.out _ (Cls.h _)))))
  refine wpQuiet_nil ?_
  intro n9
  have hk4 := n9.h
  generalize n9.w = w4 at hk4 ⊢
  clear hne n9 f0 f1 f2 f3 f4 f5 f6 f7 f8 f9 f10 f11
  obtain ⟨c0, c1, c2, c3, c4, c5, c6, c7, c8, c9, c10, c11, hsx⟩ := id hk4
  have hw4 := hk4.2.2.2.2.2.2.2.2.2.2.2.2
  by_cases h10 : 1000 < l.length
  · go_wp2_with fail
    (with_reducible refine (K9.out _ hk4).mono ?_)
    rintro e w5 ⟨rfl, hk5⟩
    obtain ⟨q0_w5, q1_w5, q2_w5, q3_w5, q4_w5, q5_w5, q6_w5, q7_w5, q8_w5, q9_w5, q10_w5, q11_w5, hs_w5⟩ := id hk5
    go_wp2_with fail
    go_ret
    exact ⟨rfl, (two_low _ _ _).trans ((low_trans hs02 hk5.2.2.2.2.2.2.2.2.2.2.2.2).mono (by simp; omega))⟩
  · go_wp2_with fail
    refine (parseE_any l _ (by omega) (hL3.below hw4)).mono ?_
    rintro e w5 ⟨rfl, hb5⟩
    have hs05 : Stays ((w.alloc (.cells #[.bool x.a.v6, .int .u64 x.a.hi, .int .u64 x.a.lo, .int .i64 x.n] 26)).alloc (.cells #[.bool y.a.v6, .int .u64 y.a.hi, .int .u64 y.a.lo, .int .i64 y.n] 26)) (w5.alloc (.cells #[.bool (parseE l).a.v6, .int .u64 (parseE l).a.hi, .int .u64 (parseE l).a.lo, .int .i64 (parseE l).n] 26)) := (low_trans hs02 (low_trans hw4 hb5)).alloc (low_trans hs02 (low_trans hw4 hb5)).size _
    have hL5 := hL0.below hs05
    cases hok : okE l
    · have EZ : ∀ W, (binOp .eql 26 (.agg #[.bool (parseE l).a.v6, .int .u64 (parseE l).a.hi, .int .u64 (parseE l).a.lo, .int .i64 (parseE l).n]) (.agg #[.bool false, .int .u64 0, .int .u64 0, .int .i64 0])).run Tryd.prog W = .ok (.bool true) W := fun W => by rw [parseE_no hok]; exact eqEnd zeroE zeroE W
      clear hok
      have JN : ∀ w', Stays (w5.alloc (.cells #[.bool (parseE l).a.v6, .int .u64 (parseE l).a.hi, .int .u64 (parseE l).a.lo, .int .i64 (parseE l).n] 26)) w' → S09e l w5 w' := fun w' h => ⟨Ci.cells_left h (cell_new4 _ _ _ _ _ _).1, Ci.cells_left h (cell_new4 _ _ _ _ _ _).2.1, Ci.cells_left h (cell_new4 _ _ _ _ _ _).2.2.1, Ci.cells_left h (cell_new4 _ _ _ _ _ _).2.2.2, h⟩
      have J9 : Hid (∀ W, S09e l w5 W → Calls Tryd.prog 6 #[] W fun e w' => e = .returned (.bool true) ∧ S09e l w5 w') := by
        intro W h
        have hs : Stays (w5.alloc (.cells #[.bool (parseE l).a.v6, .int .u64 (parseE l).a.hi, .int .u64 (parseE l).a.lo, .int .i64 (parseE l).n] 26)) W := h.2.2.2.2
        have hc : Calls Tryd.prog 6 #[] W fun e w' => e = .returned (.bool true) ∧ Below W.heap.size W w' := awake09_any W (hL5.below hs)
        exact hc.mono fun e w' ⟨he, hb⟩ => ⟨he, JN _ (low_trans hs hb)⟩
      have hk6 : S09e l w5 (w5.alloc (.cells #[.bool (parseE l).a.v6, .int .u64 (parseE l).a.hi, .int .u64 (parseE l).a.lo, .int .i64 (parseE l).n] 26)) := JN _ (Below.refl _ _)
      obtain ⟨x0, x1, x2, x3, hsy⟩ := id hk6
      go_wp2_with fail
      (with_reducible refine (J9.out _ hk6).mono ?_)
      rintro e w7 ⟨rfl, hk7⟩
      obtain ⟨q0_w7, q1_w7, q2_w7, q3_w7, hs_w7⟩ := id hk7
      go_wp2_with fail
      go_ret
      exact ⟨rfl, (two_low _ _ _).trans ((low_trans hs05 hk7.2.2.2.2).mono (by simp; omega))⟩
    · have hrx := parseE_right hok
      clear hok
      have JN : ∀ w', Stays (w5.alloc (.cells #[.bool (parseE l).a.v6, .int .u64 (parseE l).a.hi, .int .u64 (parseE l).a.lo, .int .i64 (parseE l).n] 26)) w' → S09e l w5 w' := fun w' h => ⟨Ci.cells_left h (cell_new4 _ _ _ _ _ _).1, Ci.cells_left h (cell_new4 _ _ _ _ _ _).2.1, Ci.cells_left h (cell_new4 _ _ _ _ _ _).2.2.1, Ci.cells_left h (cell_new4 _ _ _ _ _ _).2.2.2, h⟩
      have J1 : Hid (∀ W, S09e l w5 W → Calls Tryd.prog 9 #[.agg #[.bool (parseE l).a.v6, .int .u64 (parseE l).a.hi, .int .u64 (parseE l).a.lo, .int .i64 (parseE l).n]] W fun e w' => e = .returned (.bool true) ∧ S09e l w5 w') := by
        intro W h
        have hs : Stays (w5.alloc (.cells #[.bool (parseE l).a.v6, .int .u64 (parseE l).a.hi, .int .u64 (parseE l).a.lo, .int .i64 (parseE l).n] 26)) W := h.2.2.2.2
        have hc : Calls Tryd.prog 9 #[.agg #[.bool (parseE l).a.v6, .int .u64 (parseE l).a.hi, .int .u64 (parseE l).a.lo, .int .i64 (parseE l).n]] W fun e w' => e = .returned (.bool true) ∧ Below W.heap.size W w' := by have h := rightE_any (parseE l) W (parseE_ok l); rwa [hrx] at h
        exact hc.mono fun e w' ⟨he, hb⟩ => ⟨he, JN _ (low_trans hs hb)⟩
      have J9 : Hid (∀ W, S09e l w5 W → Calls Tryd.prog 6 #[] W fun e w' => e = .returned (.bool true) ∧ S09e l w5 w') := by
        intro W h
        have hs : Stays (w5.alloc (.cells #[.bool (parseE l).a.v6, .int .u64 (parseE l).a.hi, .int .u64 (parseE l).a.lo, .int .i64 (parseE l).n] 26)) W := h.2.2.2.2
        have hc : Calls Tryd.prog 6 #[] W fun e w' => e = .returned (.bool true) ∧ Below W.heap.size W w' := awake09_any W (hL5.below hs)
        exact hc.mono fun e w' ⟨he, hb⟩ => ⟨he, JN _ (low_trans hs hb)⟩
      have hk6 : S09e l w5 (w5.alloc (.cells #[.bool (parseE l).a.v6, .int .u64 (parseE l).a.hi, .int .u64 (parseE l).a.lo, .int .i64 (parseE l).n] 26)) := JN _ (Below.refl _ _)
      obtain ⟨x0, x1, x2, x3, hsy⟩ := id hk6
      clear hrx
      go_wp2_with fail
      (with_reducible refine (J1.out _ hk6).mono ?_)
      rintro e w7 ⟨rfl, hk7⟩
      obtain ⟨q0_w7, q1_w7, q2_w7, q3_w7, hs_w7⟩ := id hk7
      go_wp2_with fail
      (with_reducible refine (J9.out _ hk7).mono ?_)
      rintro e w8 ⟨rfl, hk8⟩
      obtain ⟨q0_w8, q1_w8, q2_w8, q3_w8, hs_w8⟩ := id hk8
      go_wp2_with fail
      go_ret
      exact ⟨rfl, (two_low _ _ _).trans ((low_trans hs05 hk8.2.2.2.2).mono (by simp; omega))⟩
set_option maxHeartbeats 16000000 in
theorem eback_left (w : World) (x : Endp) (hx : x.ok) (y : Endp) (hy : y.ok) (l : List UInt8) (hl : l.length ≤ 9223372036854775807) (hL : Lens w) (hr : rightE x = true) (hq : rightE y = false) :
    Calls Tryd.prog 4 #[.agg #[.bool x.a.v6, .int .u64 x.a.hi, .int .u64 x.a.lo, .int .i64 x.n], .agg #[.bool y.a.v6, .int .u64 y.a.hi, .int .u64 y.a.lo, .int .i64 y.n], .string ⟨l.toArray⟩] w fun e w' => e = .returned (.bool true) ∧ Below w.heap.size w w' := by
  have hL0 := hL.below (two_low w (.cells #[.bool x.a.v6, .int .u64 x.a.hi, .int .u64 x.a.lo, .int .i64 x.n] 26) (.cells #[.bool y.a.v6, .int .u64 y.a.hi, .int .u64 y.a.lo, .int .i64 y.n] 26))
  have T1 := Lib.hid (fun W => textE_any x W hx)
  have TL := textE_len hx
  have P1 := Lib.hid (parseE_any (textE x))
  unfold ParseE at P1
  rw [(backE hx hr).1, (backE hx hr).2] at P1
  have RI := fun W => rightE_any x W hx
  rw [hr] at RI
  have RJ := fun W => rightE_any y W hy
  rw [hq] at RJ
  have NQ : ∀ W, (binOp .neq 26 (.agg #[.bool x.a.v6, .int .u64 x.a.hi, .int .u64 x.a.lo, .int .i64 x.n]) (.agg #[.bool x.a.v6, .int .u64 x.a.hi, .int .u64 x.a.lo, .int .i64 x.n])).run Tryd.prog W = .ok (.bool false) W := fun W => by rw [neqEnd, same_selfE]; rfl
  clear hr hq
  go_enter Tryd.func4, Tryd.ntmps4
  go_wp2_with fail
  (with_reducible refine (T1.out _).mono ?_)
  rintro e w1 ⟨rfl, hb1⟩
  go_wp2_with fail
  (with_reducible refine (P1.out _ (by first | omega | simp) (hL0.below hb1)).mono ?_)
  rintro e w2 ⟨rfl, hb2⟩
  have hs02 : Stays ((w.alloc (.cells #[.bool x.a.v6, .int .u64 x.a.hi, .int .u64 x.a.lo, .int .i64 x.n] 26)).alloc (.cells #[.bool y.a.v6, .int .u64 y.a.hi, .int .u64 y.a.lo, .int .i64 y.n] 26)) (w2.alloc (.cells #[.bool x.a.v6, .int .u64 x.a.hi, .int .u64 x.a.lo, .int .i64 x.n] 26)) := (low_trans hb1 hb2).alloc (low_trans hb1 hb2).size _
  have hL3 := hL0.below hs02
  clear T1 P1 hb1 hb2
  obtain ⟨n0, n1, n2, n3, m0, m1, m2, m3⟩ := two_ends w x y
  have IN : ∀ w', Stays (w2.alloc (.cells #[.bool x.a.v6, .int .u64 x.a.hi, .int .u64 x.a.lo, .int .i64 x.n] 26)) w' → S09d x y x w w2 w' := fun w' h => ⟨Ci.cells_left h (Ci.cells_left hs02 n0), Ci.cells_left h (Ci.cells_left hs02 n1), Ci.cells_left h (Ci.cells_left hs02 n2), Ci.cells_left h (Ci.cells_left hs02 n3), Ci.cells_left h (Ci.cells_left hs02 m0), Ci.cells_left h (Ci.cells_left hs02 m1), Ci.cells_left h (Ci.cells_left hs02 m2), Ci.cells_left h (Ci.cells_left hs02 m3), Ci.cells_left h (cell_new4 _ _ _ _ _ _).1, Ci.cells_left h (cell_new4 _ _ _ _ _ _).2.1, Ci.cells_left h (cell_new4 _ _ _ _ _ _).2.2.1, Ci.cells_left h (cell_new4 _ _ _ _ _ _).2.2.2, h⟩
  have K1 : Hid (∀ W, S09d x y x w w2 W → Calls Tryd.prog 9 #[.agg #[.bool x.a.v6, .int .u64 x.a.hi, .int .u64 x.a.lo, .int .i64 x.n]] W fun e w' => e = .returned (.bool true) ∧ S09d x y x w w2 w') := by
    intro W h
    have hs : Stays (w2.alloc (.cells #[.bool x.a.v6, .int .u64 x.a.hi, .int .u64 x.a.lo, .int .i64 x.n] 26)) W := h.2.2.2.2.2.2.2.2.2.2.2.2
    have hc : Calls Tryd.prog 9 #[.agg #[.bool x.a.v6, .int .u64 x.a.hi, .int .u64 x.a.lo, .int .i64 x.n]] W fun e w' => e = .returned (.bool true) ∧ Below W.heap.size W w' := RI W
    exact hc.mono fun e w' ⟨he, hb⟩ => ⟨he, IN _ (low_trans hs hb)⟩
  have K2 : Hid (∀ W, S09d x y x w w2 W → Calls Tryd.prog 9 #[.agg #[.bool y.a.v6, .int .u64 y.a.hi, .int .u64 y.a.lo, .int .i64 y.n]] W fun e w' => e = .returned (.bool false) ∧ S09d x y x w w2 w') := by
    intro W h
    have hs : Stays (w2.alloc (.cells #[.bool x.a.v6, .int .u64 x.a.hi, .int .u64 x.a.lo, .int .i64 x.n] 26)) W := h.2.2.2.2.2.2.2.2.2.2.2.2
    have hc : Calls Tryd.prog 9 #[.agg #[.bool y.a.v6, .int .u64 y.a.hi, .int .u64 y.a.lo, .int .i64 y.n]] W fun e w' => e = .returned (.bool false) ∧ Below W.heap.size W w' := RJ W
    exact hc.mono fun e w' ⟨he, hb⟩ => ⟨he, IN _ (low_trans hs hb)⟩
  have K9 : Hid (∀ W, S09d x y x w w2 W → Calls Tryd.prog 6 #[] W fun e w' => e = .returned (.bool true) ∧ S09d x y x w w2 w') := by
    intro W h
    have hs : Stays (w2.alloc (.cells #[.bool x.a.v6, .int .u64 x.a.hi, .int .u64 x.a.lo, .int .i64 x.n] 26)) W := h.2.2.2.2.2.2.2.2.2.2.2.2
    have hc : Calls Tryd.prog 6 #[] W fun e w' => e = .returned (.bool true) ∧ Below W.heap.size W w' := awake09_any W (hL3.below hs)
    exact hc.mono fun e w' ⟨he, hb⟩ => ⟨he, IN _ (low_trans hs hb)⟩
  have hk0 : S09d x y x w w2 (w2.alloc (.cells #[.bool x.a.v6, .int .u64 x.a.hi, .int .u64 x.a.lo, .int .i64 x.n] 26)) := IN _ (Below.refl _ _)
  have JD : Hid (∀ W, S09d x y x w w2 W → S09d x y x w w2 W.drew) := Lib.hid fun W h => IN _ (low_drewN h.2.2.2.2.2.2.2.2.2.2.2.2 1)
  clear n0 n1 n2 n3 m0 m1 m2 m3
  have IN := Lib.hid IN
  obtain ⟨c0, c1, c2, c3, c4, c5, c6, c7, c8, c9, c10, c11, hsx⟩ := id hk0
  go_wp2_with fail
  (with_reducible refine (K1.out _ hk0).mono ?_)
  rintro e w3 ⟨rfl, hk3⟩
  obtain ⟨q0_w3, q1_w3, q2_w3, q3_w3, q4_w3, q5_w3, q6_w3, q7_w3, q8_w3, q9_w3, q10_w3, q11_w3, hs_w3⟩ := id hk3
  go_wp2_with fail
  clear c0 c1 c2 c3 c4 c5 c6 c7 c8 c9 c10 c11 hsx
  have hne : Nonempty (Cls (S09d x y x w w2)) := ⟨⟨_, hk3⟩⟩
  have f0 : ∀ n : Cls (S09d x y x w w2), n.w.cell? ⟨w.heap.size, 0, none⟩ = some (.bool x.a.v6) := fun n => n.h.1
  have f1 : ∀ n : Cls (S09d x y x w w2), n.w.cell? ⟨w.heap.size, 1, none⟩ = some (.int .u64 x.a.hi) := fun n => n.h.2.1
  have f2 : ∀ n : Cls (S09d x y x w w2), n.w.cell? ⟨w.heap.size, 2, none⟩ = some (.int .u64 x.a.lo) := fun n => n.h.2.2.1
  have f3 : ∀ n : Cls (S09d x y x w w2), n.w.cell? ⟨w.heap.size, 3, none⟩ = some (.int .i64 x.n) := fun n => n.h.2.2.2.1
  have f4 : ∀ n : Cls (S09d x y x w w2), n.w.cell? ⟨w.heap.size + 1, 0, none⟩ = some (.bool y.a.v6) := fun n => n.h.2.2.2.2.1
  have f5 : ∀ n : Cls (S09d x y x w w2), n.w.cell? ⟨w.heap.size + 1, 1, none⟩ = some (.int .u64 y.a.hi) := fun n => n.h.2.2.2.2.2.1
  have f6 : ∀ n : Cls (S09d x y x w w2), n.w.cell? ⟨w.heap.size + 1, 2, none⟩ = some (.int .u64 y.a.lo) := fun n => n.h.2.2.2.2.2.2.1
  have f7 : ∀ n : Cls (S09d x y x w w2), n.w.cell? ⟨w.heap.size + 1, 3, none⟩ = some (.int .i64 y.n) := fun n => n.h.2.2.2.2.2.2.2.1
  have f8 : ∀ n : Cls (S09d x y x w w2), n.w.cell? ⟨w2.heap.size, 0, none⟩ = some (.bool x.a.v6) := fun n => n.h.2.2.2.2.2.2.2.2.1
  have f9 : ∀ n : Cls (S09d x y x w w2), n.w.cell? ⟨w2.heap.size, 1, none⟩ = some (.int .u64 x.a.hi) := fun n => n.h.2.2.2.2.2.2.2.2.2.1
  have f10 : ∀ n : Cls (S09d x y x w w2), n.w.cell? ⟨w2.heap.size, 2, none⟩ = some (.int .u64 x.a.lo) := fun n => n.h.2.2.2.2.2.2.2.2.2.2.1
  have f11 : ∀ n : Cls (S09d x y x w w2), n.w.cell? ⟨w2.heap.size, 3, none⟩ = some (.int .i64 x.n) := fun n => n.h.2.2.2.2.2.2.2.2.2.2.2.1
  refine Cls.region (S09d x y x w w2) (by kernel_rfl) (by kernel_rfl) (IN.out _ (low_drewN hk3.2.2.2.2.2.2.2.2.2.2.2.2 1)) ?_
  repeat (go_big_quiet_step (first | (with_reducible exact Cls.call (K1.out _ (Cls.h _))) | (with_reducible exact Cls.call (K2.out _ (Cls.h _)))))
  refine wpQuiet_nil ?_
  intro n9
  have hk4 := n9.h
  generalize n9.w = w4 at hk4 ⊢
  clear hne n9 f0 f1 f2 f3 f4 f5 f6 f7 f8 f9 f10 f11
  obtain ⟨c0, c1, c2, c3, c4, c5, c6, c7, c8, c9, c10, c11, hsx⟩ := id hk4
  have hw4 := hk4.2.2.2.2.2.2.2.2.2.2.2.2
  by_cases h10 : 1000 < l.length
  · go_wp2_with fail
    (with_reducible refine (K9.out _ hk4).mono ?_)
    rintro e w5 ⟨rfl, hk5⟩
    obtain ⟨q0_w5, q1_w5, q2_w5, q3_w5, q4_w5, q5_w5, q6_w5, q7_w5, q8_w5, q9_w5, q10_w5, q11_w5, hs_w5⟩ := id hk5
    go_wp2_with fail
    go_ret
    exact ⟨rfl, (two_low _ _ _).trans ((low_trans hs02 hk5.2.2.2.2.2.2.2.2.2.2.2.2).mono (by simp; omega))⟩
  · go_wp2_with fail
    refine (parseE_any l _ (by omega) (hL3.below hw4)).mono ?_
    rintro e w5 ⟨rfl, hb5⟩
    have hs05 : Stays ((w.alloc (.cells #[.bool x.a.v6, .int .u64 x.a.hi, .int .u64 x.a.lo, .int .i64 x.n] 26)).alloc (.cells #[.bool y.a.v6, .int .u64 y.a.hi, .int .u64 y.a.lo, .int .i64 y.n] 26)) (w5.alloc (.cells #[.bool (parseE l).a.v6, .int .u64 (parseE l).a.hi, .int .u64 (parseE l).a.lo, .int .i64 (parseE l).n] 26)) := (low_trans hs02 (low_trans hw4 hb5)).alloc (low_trans hs02 (low_trans hw4 hb5)).size _
    have hL5 := hL0.below hs05
    cases hok : okE l
    · have EZ : ∀ W, (binOp .eql 26 (.agg #[.bool (parseE l).a.v6, .int .u64 (parseE l).a.hi, .int .u64 (parseE l).a.lo, .int .i64 (parseE l).n]) (.agg #[.bool false, .int .u64 0, .int .u64 0, .int .i64 0])).run Tryd.prog W = .ok (.bool true) W := fun W => by rw [parseE_no hok]; exact eqEnd zeroE zeroE W
      clear hok
      have JN : ∀ w', Stays (w5.alloc (.cells #[.bool (parseE l).a.v6, .int .u64 (parseE l).a.hi, .int .u64 (parseE l).a.lo, .int .i64 (parseE l).n] 26)) w' → S09e l w5 w' := fun w' h => ⟨Ci.cells_left h (cell_new4 _ _ _ _ _ _).1, Ci.cells_left h (cell_new4 _ _ _ _ _ _).2.1, Ci.cells_left h (cell_new4 _ _ _ _ _ _).2.2.1, Ci.cells_left h (cell_new4 _ _ _ _ _ _).2.2.2, h⟩
      have J9 : Hid (∀ W, S09e l w5 W → Calls Tryd.prog 6 #[] W fun e w' => e = .returned (.bool true) ∧ S09e l w5 w') := by
        intro W h
        have hs : Stays (w5.alloc (.cells #[.bool (parseE l).a.v6, .int .u64 (parseE l).a.hi, .int .u64 (parseE l).a.lo, .int .i64 (parseE l).n] 26)) W := h.2.2.2.2
        have hc : Calls Tryd.prog 6 #[] W fun e w' => e = .returned (.bool true) ∧ Below W.heap.size W w' := awake09_any W (hL5.below hs)
        exact hc.mono fun e w' ⟨he, hb⟩ => ⟨he, JN _ (low_trans hs hb)⟩
      have hk6 : S09e l w5 (w5.alloc (.cells #[.bool (parseE l).a.v6, .int .u64 (parseE l).a.hi, .int .u64 (parseE l).a.lo, .int .i64 (parseE l).n] 26)) := JN _ (Below.refl _ _)
      obtain ⟨x0, x1, x2, x3, hsy⟩ := id hk6
      go_wp2_with fail
      (with_reducible refine (J9.out _ hk6).mono ?_)
      rintro e w7 ⟨rfl, hk7⟩
      obtain ⟨q0_w7, q1_w7, q2_w7, q3_w7, hs_w7⟩ := id hk7
      go_wp2_with fail
      go_ret
      exact ⟨rfl, (two_low _ _ _).trans ((low_trans hs05 hk7.2.2.2.2).mono (by simp; omega))⟩
    · have hrx := parseE_right hok
      clear hok
      have JN : ∀ w', Stays (w5.alloc (.cells #[.bool (parseE l).a.v6, .int .u64 (parseE l).a.hi, .int .u64 (parseE l).a.lo, .int .i64 (parseE l).n] 26)) w' → S09e l w5 w' := fun w' h => ⟨Ci.cells_left h (cell_new4 _ _ _ _ _ _).1, Ci.cells_left h (cell_new4 _ _ _ _ _ _).2.1, Ci.cells_left h (cell_new4 _ _ _ _ _ _).2.2.1, Ci.cells_left h (cell_new4 _ _ _ _ _ _).2.2.2, h⟩
      have J1 : Hid (∀ W, S09e l w5 W → Calls Tryd.prog 9 #[.agg #[.bool (parseE l).a.v6, .int .u64 (parseE l).a.hi, .int .u64 (parseE l).a.lo, .int .i64 (parseE l).n]] W fun e w' => e = .returned (.bool true) ∧ S09e l w5 w') := by
        intro W h
        have hs : Stays (w5.alloc (.cells #[.bool (parseE l).a.v6, .int .u64 (parseE l).a.hi, .int .u64 (parseE l).a.lo, .int .i64 (parseE l).n] 26)) W := h.2.2.2.2
        have hc : Calls Tryd.prog 9 #[.agg #[.bool (parseE l).a.v6, .int .u64 (parseE l).a.hi, .int .u64 (parseE l).a.lo, .int .i64 (parseE l).n]] W fun e w' => e = .returned (.bool true) ∧ Below W.heap.size W w' := by have h := rightE_any (parseE l) W (parseE_ok l); rwa [hrx] at h
        exact hc.mono fun e w' ⟨he, hb⟩ => ⟨he, JN _ (low_trans hs hb)⟩
      have J9 : Hid (∀ W, S09e l w5 W → Calls Tryd.prog 6 #[] W fun e w' => e = .returned (.bool true) ∧ S09e l w5 w') := by
        intro W h
        have hs : Stays (w5.alloc (.cells #[.bool (parseE l).a.v6, .int .u64 (parseE l).a.hi, .int .u64 (parseE l).a.lo, .int .i64 (parseE l).n] 26)) W := h.2.2.2.2
        have hc : Calls Tryd.prog 6 #[] W fun e w' => e = .returned (.bool true) ∧ Below W.heap.size W w' := awake09_any W (hL5.below hs)
        exact hc.mono fun e w' ⟨he, hb⟩ => ⟨he, JN _ (low_trans hs hb)⟩
      have hk6 : S09e l w5 (w5.alloc (.cells #[.bool (parseE l).a.v6, .int .u64 (parseE l).a.hi, .int .u64 (parseE l).a.lo, .int .i64 (parseE l).n] 26)) := JN _ (Below.refl _ _)
      obtain ⟨x0, x1, x2, x3, hsy⟩ := id hk6
      clear hrx
      go_wp2_with fail
      (with_reducible refine (J1.out _ hk6).mono ?_)
      rintro e w7 ⟨rfl, hk7⟩
      obtain ⟨q0_w7, q1_w7, q2_w7, q3_w7, hs_w7⟩ := id hk7
      go_wp2_with fail
      (with_reducible refine (J9.out _ hk7).mono ?_)
      rintro e w8 ⟨rfl, hk8⟩
      obtain ⟨q0_w8, q1_w8, q2_w8, q3_w8, hs_w8⟩ := id hk8
      go_wp2_with fail
      go_ret
      exact ⟨rfl, (two_low _ _ _).trans ((low_trans hs05 hk8.2.2.2.2).mono (by simp; omega))⟩
set_option maxHeartbeats 16000000 in
theorem eback_none (w : World) (x : Endp) (hx : x.ok) (y : Endp) (hy : y.ok) (l : List UInt8) (hl : l.length ≤ 9223372036854775807) (hL : Lens w) (hr : rightE x = false) :
    Calls Tryd.prog 4 #[.agg #[.bool x.a.v6, .int .u64 x.a.hi, .int .u64 x.a.lo, .int .i64 x.n], .agg #[.bool y.a.v6, .int .u64 y.a.hi, .int .u64 y.a.lo, .int .i64 y.n], .string ⟨l.toArray⟩] w fun e w' => e = .returned (.bool true) ∧ Below w.heap.size w w' := by
  have hL0 := hL.below (two_low w (.cells #[.bool x.a.v6, .int .u64 x.a.hi, .int .u64 x.a.lo, .int .i64 x.n] 26) (.cells #[.bool y.a.v6, .int .u64 y.a.hi, .int .u64 y.a.lo, .int .i64 y.n] 26))
  have T1 := Lib.hid (fun W => textE_any x W hx)
  have TL := textE_len hx
  have P1 := Lib.hid (parseE_any (textE x))
  unfold ParseE at P1
  rw [textE_no hr, okE_dash, show parseE [45] = zeroE from parseE_no okE_dash] at P1
  simp only [zeroE] at P1
  rw [textE_no hr] at T1
  have RI := fun W => rightE_any x W hx
  rw [hr] at RI
  clear hr
  go_enter Tryd.func4, Tryd.ntmps4
  go_wp2_with fail
  (with_reducible refine (T1.out _).mono ?_)
  rintro e w1 ⟨rfl, hb1⟩
  go_wp2_with fail
  (with_reducible refine (P1.out _ (by first | omega | simp) (hL0.below hb1)).mono ?_)
  rintro e w2 ⟨rfl, hb2⟩
  have hs02 : Stays ((w.alloc (.cells #[.bool x.a.v6, .int .u64 x.a.hi, .int .u64 x.a.lo, .int .i64 x.n] 26)).alloc (.cells #[.bool y.a.v6, .int .u64 y.a.hi, .int .u64 y.a.lo, .int .i64 y.n] 26)) (w2.alloc (.cells #[.bool false, .int .u64 0, .int .u64 0, .int .i64 0] 26)) := (low_trans hb1 hb2).alloc (low_trans hb1 hb2).size _
  have hL3 := hL0.below hs02
  clear T1 P1 hb1 hb2
  obtain ⟨n0, n1, n2, n3, m0, m1, m2, m3⟩ := two_ends w x y
  have IN : ∀ w', Stays (w2.alloc (.cells #[.bool false, .int .u64 0, .int .u64 0, .int .i64 0] 26)) w' → S09d x y zeroE w w2 w' := fun w' h => ⟨Ci.cells_left h (Ci.cells_left hs02 n0), Ci.cells_left h (Ci.cells_left hs02 n1), Ci.cells_left h (Ci.cells_left hs02 n2), Ci.cells_left h (Ci.cells_left hs02 n3), Ci.cells_left h (Ci.cells_left hs02 m0), Ci.cells_left h (Ci.cells_left hs02 m1), Ci.cells_left h (Ci.cells_left hs02 m2), Ci.cells_left h (Ci.cells_left hs02 m3), Ci.cells_left h (cell_new4 _ _ _ _ _ _).1, Ci.cells_left h (cell_new4 _ _ _ _ _ _).2.1, Ci.cells_left h (cell_new4 _ _ _ _ _ _).2.2.1, Ci.cells_left h (cell_new4 _ _ _ _ _ _).2.2.2, h⟩
  have K1 : Hid (∀ W, S09d x y zeroE w w2 W → Calls Tryd.prog 9 #[.agg #[.bool x.a.v6, .int .u64 x.a.hi, .int .u64 x.a.lo, .int .i64 x.n]] W fun e w' => e = .returned (.bool false) ∧ S09d x y zeroE w w2 w') := by
    intro W h
    have hs : Stays (w2.alloc (.cells #[.bool false, .int .u64 0, .int .u64 0, .int .i64 0] 26)) W := h.2.2.2.2.2.2.2.2.2.2.2.2
    have hc : Calls Tryd.prog 9 #[.agg #[.bool x.a.v6, .int .u64 x.a.hi, .int .u64 x.a.lo, .int .i64 x.n]] W fun e w' => e = .returned (.bool false) ∧ Below W.heap.size W w' := RI W
    exact hc.mono fun e w' ⟨he, hb⟩ => ⟨he, IN _ (low_trans hs hb)⟩
  have K9 : Hid (∀ W, S09d x y zeroE w w2 W → Calls Tryd.prog 6 #[] W fun e w' => e = .returned (.bool true) ∧ S09d x y zeroE w w2 w') := by
    intro W h
    have hs : Stays (w2.alloc (.cells #[.bool false, .int .u64 0, .int .u64 0, .int .i64 0] 26)) W := h.2.2.2.2.2.2.2.2.2.2.2.2
    have hc : Calls Tryd.prog 6 #[] W fun e w' => e = .returned (.bool true) ∧ Below W.heap.size W w' := awake09_any W (hL3.below hs)
    exact hc.mono fun e w' ⟨he, hb⟩ => ⟨he, IN _ (low_trans hs hb)⟩
  have hk0 : S09d x y zeroE w w2 (w2.alloc (.cells #[.bool false, .int .u64 0, .int .u64 0, .int .i64 0] 26)) := IN _ (Below.refl _ _)
  have JD : Hid (∀ W, S09d x y zeroE w w2 W → S09d x y zeroE w w2 W.drew) := Lib.hid fun W h => IN _ (low_drewN h.2.2.2.2.2.2.2.2.2.2.2.2 1)
  clear n0 n1 n2 n3 m0 m1 m2 m3
  have IN := Lib.hid IN
  obtain ⟨c0, c1, c2, c3, c4, c5, c6, c7, c8, c9, c10, c11, hsx⟩ := id hk0
  go_wp2_with fail
  (with_reducible refine (K1.out _ hk0).mono ?_)
  rintro e w3 ⟨rfl, hk3⟩
  obtain ⟨q0_w3, q1_w3, q2_w3, q3_w3, q4_w3, q5_w3, q6_w3, q7_w3, q8_w3, q9_w3, q10_w3, q11_w3, hs_w3⟩ := id hk3
  go_wp2_with fail
  clear c0 c1 c2 c3 c4 c5 c6 c7 c8 c9 c10 c11 hsx
  have hne : Nonempty (Cls (S09d x y zeroE w w2)) := ⟨⟨_, hk3⟩⟩
  have f0 : ∀ n : Cls (S09d x y zeroE w w2), n.w.cell? ⟨w.heap.size, 0, none⟩ = some (.bool x.a.v6) := fun n => n.h.1
  have f1 : ∀ n : Cls (S09d x y zeroE w w2), n.w.cell? ⟨w.heap.size, 1, none⟩ = some (.int .u64 x.a.hi) := fun n => n.h.2.1
  have f2 : ∀ n : Cls (S09d x y zeroE w w2), n.w.cell? ⟨w.heap.size, 2, none⟩ = some (.int .u64 x.a.lo) := fun n => n.h.2.2.1
  have f3 : ∀ n : Cls (S09d x y zeroE w w2), n.w.cell? ⟨w.heap.size, 3, none⟩ = some (.int .i64 x.n) := fun n => n.h.2.2.2.1
  have f4 : ∀ n : Cls (S09d x y zeroE w w2), n.w.cell? ⟨w.heap.size + 1, 0, none⟩ = some (.bool y.a.v6) := fun n => n.h.2.2.2.2.1
  have f5 : ∀ n : Cls (S09d x y zeroE w w2), n.w.cell? ⟨w.heap.size + 1, 1, none⟩ = some (.int .u64 y.a.hi) := fun n => n.h.2.2.2.2.2.1
  have f6 : ∀ n : Cls (S09d x y zeroE w w2), n.w.cell? ⟨w.heap.size + 1, 2, none⟩ = some (.int .u64 y.a.lo) := fun n => n.h.2.2.2.2.2.2.1
  have f7 : ∀ n : Cls (S09d x y zeroE w w2), n.w.cell? ⟨w.heap.size + 1, 3, none⟩ = some (.int .i64 y.n) := fun n => n.h.2.2.2.2.2.2.2.1
  have f8 : ∀ n : Cls (S09d x y zeroE w w2), n.w.cell? ⟨w2.heap.size, 0, none⟩ = some (.bool false) := fun n => n.h.2.2.2.2.2.2.2.2.1
  have f9 : ∀ n : Cls (S09d x y zeroE w w2), n.w.cell? ⟨w2.heap.size, 1, none⟩ = some (.int .u64 0) := fun n => n.h.2.2.2.2.2.2.2.2.2.1
  have f10 : ∀ n : Cls (S09d x y zeroE w w2), n.w.cell? ⟨w2.heap.size, 2, none⟩ = some (.int .u64 0) := fun n => n.h.2.2.2.2.2.2.2.2.2.2.1
  have f11 : ∀ n : Cls (S09d x y zeroE w w2), n.w.cell? ⟨w2.heap.size, 3, none⟩ = some (.int .i64 0) := fun n => n.h.2.2.2.2.2.2.2.2.2.2.2.1
  refine Cls.region (S09d x y zeroE w w2) (by kernel_rfl) (by kernel_rfl) (IN.out _ (low_drewN hk3.2.2.2.2.2.2.2.2.2.2.2.2 1)) ?_
  repeat (go_big_quiet_step (first | (with_reducible exact Cls.call (K1.out _ (Cls.h _)))))
  refine wpQuiet_nil ?_
  intro n9
  have hk4 := n9.h
  generalize n9.w = w4 at hk4 ⊢
  clear hne n9 f0 f1 f2 f3 f4 f5 f6 f7 f8 f9 f10 f11
  obtain ⟨c0, c1, c2, c3, c4, c5, c6, c7, c8, c9, c10, c11, hsx⟩ := id hk4
  have hw4 := hk4.2.2.2.2.2.2.2.2.2.2.2.2
  by_cases h10 : 1000 < l.length
  · go_wp2_with fail
    (with_reducible refine (K9.out _ hk4).mono ?_)
    rintro e w5 ⟨rfl, hk5⟩
    obtain ⟨q0_w5, q1_w5, q2_w5, q3_w5, q4_w5, q5_w5, q6_w5, q7_w5, q8_w5, q9_w5, q10_w5, q11_w5, hs_w5⟩ := id hk5
    go_wp2_with fail
    go_ret
    exact ⟨rfl, (two_low _ _ _).trans ((low_trans hs02 hk5.2.2.2.2.2.2.2.2.2.2.2.2).mono (by simp; omega))⟩
  · go_wp2_with fail
    refine (parseE_any l _ (by omega) (hL3.below hw4)).mono ?_
    rintro e w5 ⟨rfl, hb5⟩
    have hs05 : Stays ((w.alloc (.cells #[.bool x.a.v6, .int .u64 x.a.hi, .int .u64 x.a.lo, .int .i64 x.n] 26)).alloc (.cells #[.bool y.a.v6, .int .u64 y.a.hi, .int .u64 y.a.lo, .int .i64 y.n] 26)) (w5.alloc (.cells #[.bool (parseE l).a.v6, .int .u64 (parseE l).a.hi, .int .u64 (parseE l).a.lo, .int .i64 (parseE l).n] 26)) := (low_trans hs02 (low_trans hw4 hb5)).alloc (low_trans hs02 (low_trans hw4 hb5)).size _
    have hL5 := hL0.below hs05
    cases hok : okE l
    · have EZ : ∀ W, (binOp .eql 26 (.agg #[.bool (parseE l).a.v6, .int .u64 (parseE l).a.hi, .int .u64 (parseE l).a.lo, .int .i64 (parseE l).n]) (.agg #[.bool false, .int .u64 0, .int .u64 0, .int .i64 0])).run Tryd.prog W = .ok (.bool true) W := fun W => by rw [parseE_no hok]; exact eqEnd zeroE zeroE W
      clear hok
      have JN : ∀ w', Stays (w5.alloc (.cells #[.bool (parseE l).a.v6, .int .u64 (parseE l).a.hi, .int .u64 (parseE l).a.lo, .int .i64 (parseE l).n] 26)) w' → S09e l w5 w' := fun w' h => ⟨Ci.cells_left h (cell_new4 _ _ _ _ _ _).1, Ci.cells_left h (cell_new4 _ _ _ _ _ _).2.1, Ci.cells_left h (cell_new4 _ _ _ _ _ _).2.2.1, Ci.cells_left h (cell_new4 _ _ _ _ _ _).2.2.2, h⟩
      have J9 : Hid (∀ W, S09e l w5 W → Calls Tryd.prog 6 #[] W fun e w' => e = .returned (.bool true) ∧ S09e l w5 w') := by
        intro W h
        have hs : Stays (w5.alloc (.cells #[.bool (parseE l).a.v6, .int .u64 (parseE l).a.hi, .int .u64 (parseE l).a.lo, .int .i64 (parseE l).n] 26)) W := h.2.2.2.2
        have hc : Calls Tryd.prog 6 #[] W fun e w' => e = .returned (.bool true) ∧ Below W.heap.size W w' := awake09_any W (hL5.below hs)
        exact hc.mono fun e w' ⟨he, hb⟩ => ⟨he, JN _ (low_trans hs hb)⟩
      have hk6 : S09e l w5 (w5.alloc (.cells #[.bool (parseE l).a.v6, .int .u64 (parseE l).a.hi, .int .u64 (parseE l).a.lo, .int .i64 (parseE l).n] 26)) := JN _ (Below.refl _ _)
      obtain ⟨x0, x1, x2, x3, hsy⟩ := id hk6
      go_wp2_with fail
      (with_reducible refine (J9.out _ hk6).mono ?_)
      rintro e w7 ⟨rfl, hk7⟩
      obtain ⟨q0_w7, q1_w7, q2_w7, q3_w7, hs_w7⟩ := id hk7
      go_wp2_with fail
      go_ret
      exact ⟨rfl, (two_low _ _ _).trans ((low_trans hs05 hk7.2.2.2.2).mono (by simp; omega))⟩
    · have hrx := parseE_right hok
      clear hok
      have JN : ∀ w', Stays (w5.alloc (.cells #[.bool (parseE l).a.v6, .int .u64 (parseE l).a.hi, .int .u64 (parseE l).a.lo, .int .i64 (parseE l).n] 26)) w' → S09e l w5 w' := fun w' h => ⟨Ci.cells_left h (cell_new4 _ _ _ _ _ _).1, Ci.cells_left h (cell_new4 _ _ _ _ _ _).2.1, Ci.cells_left h (cell_new4 _ _ _ _ _ _).2.2.1, Ci.cells_left h (cell_new4 _ _ _ _ _ _).2.2.2, h⟩
      have J1 : Hid (∀ W, S09e l w5 W → Calls Tryd.prog 9 #[.agg #[.bool (parseE l).a.v6, .int .u64 (parseE l).a.hi, .int .u64 (parseE l).a.lo, .int .i64 (parseE l).n]] W fun e w' => e = .returned (.bool true) ∧ S09e l w5 w') := by
        intro W h
        have hs : Stays (w5.alloc (.cells #[.bool (parseE l).a.v6, .int .u64 (parseE l).a.hi, .int .u64 (parseE l).a.lo, .int .i64 (parseE l).n] 26)) W := h.2.2.2.2
        have hc : Calls Tryd.prog 9 #[.agg #[.bool (parseE l).a.v6, .int .u64 (parseE l).a.hi, .int .u64 (parseE l).a.lo, .int .i64 (parseE l).n]] W fun e w' => e = .returned (.bool true) ∧ Below W.heap.size W w' := by have h := rightE_any (parseE l) W (parseE_ok l); rwa [hrx] at h
        exact hc.mono fun e w' ⟨he, hb⟩ => ⟨he, JN _ (low_trans hs hb)⟩
      have J9 : Hid (∀ W, S09e l w5 W → Calls Tryd.prog 6 #[] W fun e w' => e = .returned (.bool true) ∧ S09e l w5 w') := by
        intro W h
        have hs : Stays (w5.alloc (.cells #[.bool (parseE l).a.v6, .int .u64 (parseE l).a.hi, .int .u64 (parseE l).a.lo, .int .i64 (parseE l).n] 26)) W := h.2.2.2.2
        have hc : Calls Tryd.prog 6 #[] W fun e w' => e = .returned (.bool true) ∧ Below W.heap.size W w' := awake09_any W (hL5.below hs)
        exact hc.mono fun e w' ⟨he, hb⟩ => ⟨he, JN _ (low_trans hs hb)⟩
      have hk6 : S09e l w5 (w5.alloc (.cells #[.bool (parseE l).a.v6, .int .u64 (parseE l).a.hi, .int .u64 (parseE l).a.lo, .int .i64 (parseE l).n] 26)) := JN _ (Below.refl _ _)
      obtain ⟨x0, x1, x2, x3, hsy⟩ := id hk6
      clear hrx
      go_wp2_with fail
      (with_reducible refine (J1.out _ hk6).mono ?_)
      rintro e w7 ⟨rfl, hk7⟩
      obtain ⟨q0_w7, q1_w7, q2_w7, q3_w7, hs_w7⟩ := id hk7
      go_wp2_with fail
      (with_reducible refine (J9.out _ hk7).mono ?_)
      rintro e w8 ⟨rfl, hk8⟩
      obtain ⟨q0_w8, q1_w8, q2_w8, q3_w8, hs_w8⟩ := id hk8
      go_wp2_with fail
      go_ret
      exact ⟨rfl, (two_low _ _ _).trans ((low_trans hs05 hk8.2.2.2.2).mono (by simp; omega))⟩
theorem endpBack_walk (w : World) (x : Endp) (hx : x.ok) (y : Endp) (hy : y.ok) (l : List UInt8) (hl : l.length ≤ 9223372036854775807) (hL : Lens w) :
    Calls Tryd.prog 4 #[.agg #[.bool x.a.v6, .int .u64 x.a.hi, .int .u64 x.a.lo, .int .i64 x.n], .agg #[.bool y.a.v6, .int .u64 y.a.hi, .int .u64 y.a.lo, .int .i64 y.n], .string ⟨l.toArray⟩] w fun e w' => e = .returned (.bool true) ∧ Below w.heap.size w w' := by
  cases hr : rightE x
  · exact eback_none w x hx y hy l hl hL hr
  · cases hq : rightE y
    · exact eback_left w x hx y hy l hl hL hr hq
    · exact eback_both w x hx y hy l hl hL hr hq
namespace endpBack
theorem contract (H : Type) (enc : TypeId × Value → H) (W : World) (base : Nat) (args : Array Value) (ds gs : List (DataW H)) (before : List MemPlace)
    (hval0 : ∀ (j : Nat) t v, Tryd.f4.params[j]? = some t → args[j]? = some v → Value.okWide Tryd.prog W .any base t v)
    (hW : DataW.Whole enc Tryd.prog Tryd.f4.params.toList Rows.endpBackSpec.vars false W args.toList ds gs before) (hSh : W.ShapedOpen Tryd.prog) :
    Calls Tryd.prog 4 args W fun e W' => ∃ v, e = .returned v ∧ Rows.endpBackSpec.post enc Tryd.prog Tryd.f4 false true false false W args v W' := by
  have hval : ∀ (j : Nat) t v, Tryd.f4.params[j]? = some t → args[j]? = some v → Value.okWide Tryd.prog W .any base t v := hval0
  have hW' := hW
  obtain ⟨p, q, hA0, hV, _, _, _⟩ := hW
  have hA : DataW.TrodAll enc Tryd.prog W 0 (fun _ => true) true Tryd.f4.params.toList args.toList ds p := hA0
  rw [Tryd.params4] at hA hval
  obtain ⟨v0, vs0, d0, ds0, p0, q0, hargs, rfl, rfl, h0, r0⟩ := trodAll_cons hA
  obtain ⟨v1, vs1, d1, ds1, p1, q1, rfl, rfl, rfl, h1, r1⟩ := trodAll_cons r0
  obtain ⟨v2, vs2, d2, ds2, p2, q2, rfl, rfl, rfl, h2, r2⟩ := trodAll_cons r1
  obtain ⟨rfl, rfl, rfl⟩ := trodAll_nil r2
  obtain rfl : args = #[v0, v1, v2] := by cases args; simp_all
  obtain ⟨rfl, rfl⟩ := trodVars_none hV
  obtain ⟨a0, z0, rfl, rfl, rfl⟩ := open_end (ta := 24) (tb := 4) (tu := 22) (ti := 3) Tryd.underlying26 rfl rfl Tryd.underlying24 (by kernel_rfl) rfl rfl (by kernel_rfl) (by kernel_rfl) (by kernel_rfl) rfl rfl rfl Tryd.underlying4 Tryd.underlying22 Tryd.underlying3 (hval 0 26 v0 rfl rfl) h0
  obtain ⟨a1, z1, rfl, rfl, rfl⟩ := open_end (ta := 24) (tb := 4) (tu := 22) (ti := 3) Tryd.underlying26 rfl rfl Tryd.underlying24 (by kernel_rfl) rfl rfl (by kernel_rfl) (by kernel_rfl) (by kernel_rfl) rfl rfl rfl Tryd.underlying4 Tryd.underlying22 Tryd.underlying3 (hval 1 26 v1 rfl rfl) h1
  obtain ⟨b2, rfl, rfl, rfl, w2⟩ := ChangeMaps.open_string Tryd.underlying9 (hval 2 9 v2 rfl rfl) h2
  obtain ⟨a2, rfl⟩ : ∃ a : List UInt8, b2 = ⟨a.toArray⟩ := ⟨b2.data.toList, (str_same _).symm⟩
  have z2 : a2.length ≤ 9223372036854775807 := by unfold maxLen at w2; rw [← len_size, str_back] at w2; exact w2
  clear hA0 hval0
  refine (endpBack_walk W a0 z0 a1 z1 a2 (by omega) (V6.Lens.start hSh)).mono fun e W' ⟨he, hg⟩ => ?_
  subst he
  exact ⟨_, rfl, post_law laidOut (by kernel_rfl) (by kernel_rfl) Tryd.underlying4 rfl hW' rfl rfl rfl hg⟩
set_option maxRecDepth 100000 in
theorem lifted (os : Os) (started : os.Started) (H : Type) (enc : TypeId × Value → H) (F : Stop.Interp) :
    ReturnsInHanded {} Tryd.checked os 4 .any ((OpenSpec.ofChange Rows.endpBackSpec).preRow enc Tryd.prog Tryd.f4 Rows.endpBackRow.domain false Rows.endpBackRow.laid) (((OpenSpec.ofChange Rows.endpBackSpec).at F).post enc Tryd.prog Tryd.f4 false true false false) := by
  refine returnsInHanded_of_row (C := Tryd.checked) (s := OpenSpec.ofChange Rows.endpBackSpec) own started (by kernel_rfl) Tryd.func4
    (witness_laid (enc := enc) (C := Tryd.checked) (s := OpenSpec.ofChange Rows.endpBackSpec) (laid := Rows.endpBackRow.laid) #[.agg #[.bool false, .int .u64 0, .int .u64 0, .int .i64 0], .agg #[.bool false, .int .u64 0, .int .u64 0, .int .i64 0], .string ByteArray.empty] (World.shaped_of_ZipB (by kernel_rfl) (by kernel_rfl)) (by kernel_rfl)
      (OpenSpec.preRow_of_cond 8 (x := ([.agg [.agg [.lit (.bool false), .lit (.int .u64 0), .lit (.int .u64 0)], .lit (.int .i64 0)], .agg [.agg [.lit (.bool false), .lit (.int .u64 0), .lit (.int .u64 0)], .lit (.int .i64 0)], .lit (.string [])], [], [])) (by kernel_rfl) (by kernel_rfl) (fun k hk => by cases hk) (by kernel_rfl)
        (by rw [MakeChecks.laidMetH_plain _ _ _ (by kernel_rfl)]; exact laidMet_laidAll _ (by kernel_rfl) (by kernel_rfl)))) ?_
  intro W base args ds gs before hval hW _ hcond _ _ hsh _
  exact contract H enc W base args ds gs before hval hW hsh
theorem over : Rows.endpBackRow.holds Tryd.pinned (OpenSpec.ofChange Rows.endpBackSpec) :=
  OpenClaim.holds_of_cond 4 Tryd.f4 rfl rfl rfl rfl rfl rfl rfl ⟨rfl, rfl, rfl, rfl, rfl⟩ rfl rfl rfl rfl rfl (by kernel_rfl) Tryd.func4 (by kernel_rfl)
    (of_decide_eq_true (by kernel_rfl)) (by unfold Func.isWrapper; first | (rw [if_pos (by decide +kernel)]; kernel_rfl) | (rw [if_neg (by decide +kernel)]; exact ⟨rfl, rfl⟩))
    (fun os started H enc _ F => by rw [OpenClaim.pre_eq_preRow]; exact lifted os started H enc F)
/-- ████ THE STATEMENT ████ -/
theorem proved : Rows.EndpBackCardSaid :=
  Claim7.holds_tied_plain_at .later [] Rows.endpBackCard.laidKinds Rows.endpBackCard.laidTests Rows.endpBackCard.stood.harness Rows.endpBackCard.stood.looks over (fun _ h => by cases h) (by kernel_rfl) (fun _ h => by cases h) endpBack_row_tie rfl ⟨rfl, rfl⟩ (by kernel_rfl) rfl
    (fun f fn hf hfn => by
      obtain rfl : f = 4 := Option.some.inj ((show Tryd.prog.funcNamed Rows.endpBackRow.func = some 4 by kernel_rfl).symm.trans hf) |>.symm
      obtain rfl : fn = Tryd.f4 := (Option.some.inj (Tryd.func4.symm.trans hfn)).symm
      exact ⟨by kernel_rfl, no_standin (by kernel_rfl)⟩)
    (by kernel_rfl)
end endpBack
end Go.Proofs.YtboojhpconongaaDoor
