/- The second statement of layer 12, proved: a ban that is right is read of its line; what holds at a tick held at each one ahead of it; for all bans, addresses and ticks, under the row's listed variables. -/
import Derived.Test.YtpbgmgjnclhpmaaDoorLaw12
import Derived.Deep.DeepCutAuto
namespace Go.Proofs.YtpbgmgjnclhpmaaDoor
set_option maxRecDepth 100000
open Go.ChangeShapes Go.WideShapes Go.ChangeAt Go.RowKit
open Dec Words V4 V6 Ad Ci Ba
set_option linter.unusedVariables false
abbrev S12b (x : Ban) (a : Adr) (i j : Int) (w : World) (w' : World) : Prop := w'.cell? ⟨w.heap.size, 0, none⟩ = some (.bool x.n.a.v6) ∧ w'.cell? ⟨w.heap.size, 1, none⟩ = some (.int .u64 x.n.a.hi) ∧ w'.cell? ⟨w.heap.size, 2, none⟩ = some (.int .u64 x.n.a.lo) ∧ w'.cell? ⟨w.heap.size, 3, none⟩ = some (.int .i64 x.n.n) ∧ w'.cell? ⟨w.heap.size, 4, none⟩ = some (.int .i64 x.t) ∧ w'.cell? ⟨w.heap.size + 1, 0, none⟩ = some (.bool a.v6) ∧ w'.cell? ⟨w.heap.size + 1, 1, none⟩ = some (.int .u64 a.hi) ∧ w'.cell? ⟨w.heap.size + 1, 2, none⟩ = some (.int .u64 a.lo) ∧ w'.cell? ⟨w.heap.size + 2, 0, none⟩ = some (.int .i64 i) ∧ w'.cell? ⟨w.heap.size + 2, 1, none⟩ = some (.int .i64 j) ∧ Stays (((w.alloc (.cells #[.bool x.n.a.v6, .int .u64 x.n.a.hi, .int .u64 x.n.a.lo, .int .i64 x.n.n, .int .i64 x.t] 28)).alloc (.cells #[.bool a.v6, .int .u64 a.hi, .int .u64 a.lo] 24)).alloc (.cells #[.int .i64 i, .int .i64 j] 29)) w'
theorem S12b.of {x : Ban} {a : Adr} {i j : Int} {w w' : World} (h : Stays (((w.alloc (.cells #[.bool x.n.a.v6, .int .u64 x.n.a.hi, .int .u64 x.n.a.lo, .int .i64 x.n.n, .int .i64 x.t] 28)).alloc (.cells #[.bool a.v6, .int .u64 a.hi, .int .u64 a.lo] 24)).alloc (.cells #[.int .i64 i, .int .i64 j] 29)) w') : S12b x a i j w w' := by
  have s0 : Stays (w.alloc (.cells #[.bool x.n.a.v6, .int .u64 x.n.a.hi, .int .u64 x.n.a.lo, .int .i64 x.n.n, .int .i64 x.t] 28)) (((w.alloc (.cells #[.bool x.n.a.v6, .int .u64 x.n.a.hi, .int .u64 x.n.a.lo, .int .i64 x.n.n, .int .i64 x.t] 28)).alloc (.cells #[.bool a.v6, .int .u64 a.hi, .int .u64 a.lo] 24)).alloc (.cells #[.int .i64 i, .int .i64 j] 29)) := (((Below.refl _ _).alloc (by first | (simp; done) | (simp; omega)) _).alloc (by first | (simp; done) | (simp; omega)) _)
  have n0_0 : (w.alloc (.cells #[.bool x.n.a.v6, .int .u64 x.n.a.hi, .int .u64 x.n.a.lo, .int .i64 x.n.n, .int .i64 x.t] 28)).cell? ⟨w.heap.size, 0, none⟩ = some (.bool x.n.a.v6) := by
    have k := cell_at (w) #[.bool x.n.a.v6, .int .u64 x.n.a.hi, .int .u64 x.n.a.lo, .int .i64 x.n.n, .int .i64 x.t] 28 0 _ rfl
    exact k
  have n0_1 : (w.alloc (.cells #[.bool x.n.a.v6, .int .u64 x.n.a.hi, .int .u64 x.n.a.lo, .int .i64 x.n.n, .int .i64 x.t] 28)).cell? ⟨w.heap.size, 1, none⟩ = some (.int .u64 x.n.a.hi) := by
    have k := cell_at (w) #[.bool x.n.a.v6, .int .u64 x.n.a.hi, .int .u64 x.n.a.lo, .int .i64 x.n.n, .int .i64 x.t] 28 1 _ rfl
    exact k
  have n0_2 : (w.alloc (.cells #[.bool x.n.a.v6, .int .u64 x.n.a.hi, .int .u64 x.n.a.lo, .int .i64 x.n.n, .int .i64 x.t] 28)).cell? ⟨w.heap.size, 2, none⟩ = some (.int .u64 x.n.a.lo) := by
    have k := cell_at (w) #[.bool x.n.a.v6, .int .u64 x.n.a.hi, .int .u64 x.n.a.lo, .int .i64 x.n.n, .int .i64 x.t] 28 2 _ rfl
    exact k
  have n0_3 : (w.alloc (.cells #[.bool x.n.a.v6, .int .u64 x.n.a.hi, .int .u64 x.n.a.lo, .int .i64 x.n.n, .int .i64 x.t] 28)).cell? ⟨w.heap.size, 3, none⟩ = some (.int .i64 x.n.n) := by
    have k := cell_at (w) #[.bool x.n.a.v6, .int .u64 x.n.a.hi, .int .u64 x.n.a.lo, .int .i64 x.n.n, .int .i64 x.t] 28 3 _ rfl
    exact k
  have n0_4 : (w.alloc (.cells #[.bool x.n.a.v6, .int .u64 x.n.a.hi, .int .u64 x.n.a.lo, .int .i64 x.n.n, .int .i64 x.t] 28)).cell? ⟨w.heap.size, 4, none⟩ = some (.int .i64 x.t) := by
    have k := cell_at (w) #[.bool x.n.a.v6, .int .u64 x.n.a.hi, .int .u64 x.n.a.lo, .int .i64 x.n.n, .int .i64 x.t] 28 4 _ rfl
    exact k
  have s1 : Stays ((w.alloc (.cells #[.bool x.n.a.v6, .int .u64 x.n.a.hi, .int .u64 x.n.a.lo, .int .i64 x.n.n, .int .i64 x.t] 28)).alloc (.cells #[.bool a.v6, .int .u64 a.hi, .int .u64 a.lo] 24)) (((w.alloc (.cells #[.bool x.n.a.v6, .int .u64 x.n.a.hi, .int .u64 x.n.a.lo, .int .i64 x.n.n, .int .i64 x.t] 28)).alloc (.cells #[.bool a.v6, .int .u64 a.hi, .int .u64 a.lo] 24)).alloc (.cells #[.int .i64 i, .int .i64 j] 29)) := ((Below.refl _ _).alloc (by first | (simp; done) | (simp; omega)) _)
  have n1_0 : ((w.alloc (.cells #[.bool x.n.a.v6, .int .u64 x.n.a.hi, .int .u64 x.n.a.lo, .int .i64 x.n.n, .int .i64 x.t] 28)).alloc (.cells #[.bool a.v6, .int .u64 a.hi, .int .u64 a.lo] 24)).cell? ⟨w.heap.size + 1, 0, none⟩ = some (.bool a.v6) := by
    have k := cell_at (w.alloc (.cells #[.bool x.n.a.v6, .int .u64 x.n.a.hi, .int .u64 x.n.a.lo, .int .i64 x.n.n, .int .i64 x.t] 28)) #[.bool a.v6, .int .u64 a.hi, .int .u64 a.lo] 24 0 _ rfl
    rwa [show (w.alloc (.cells #[.bool x.n.a.v6, .int .u64 x.n.a.hi, .int .u64 x.n.a.lo, .int .i64 x.n.n, .int .i64 x.t] 28)).heap.size = w.heap.size + 1 by simp] at k
  have n1_1 : ((w.alloc (.cells #[.bool x.n.a.v6, .int .u64 x.n.a.hi, .int .u64 x.n.a.lo, .int .i64 x.n.n, .int .i64 x.t] 28)).alloc (.cells #[.bool a.v6, .int .u64 a.hi, .int .u64 a.lo] 24)).cell? ⟨w.heap.size + 1, 1, none⟩ = some (.int .u64 a.hi) := by
    have k := cell_at (w.alloc (.cells #[.bool x.n.a.v6, .int .u64 x.n.a.hi, .int .u64 x.n.a.lo, .int .i64 x.n.n, .int .i64 x.t] 28)) #[.bool a.v6, .int .u64 a.hi, .int .u64 a.lo] 24 1 _ rfl
    rwa [show (w.alloc (.cells #[.bool x.n.a.v6, .int .u64 x.n.a.hi, .int .u64 x.n.a.lo, .int .i64 x.n.n, .int .i64 x.t] 28)).heap.size = w.heap.size + 1 by simp] at k
  have n1_2 : ((w.alloc (.cells #[.bool x.n.a.v6, .int .u64 x.n.a.hi, .int .u64 x.n.a.lo, .int .i64 x.n.n, .int .i64 x.t] 28)).alloc (.cells #[.bool a.v6, .int .u64 a.hi, .int .u64 a.lo] 24)).cell? ⟨w.heap.size + 1, 2, none⟩ = some (.int .u64 a.lo) := by
    have k := cell_at (w.alloc (.cells #[.bool x.n.a.v6, .int .u64 x.n.a.hi, .int .u64 x.n.a.lo, .int .i64 x.n.n, .int .i64 x.t] 28)) #[.bool a.v6, .int .u64 a.hi, .int .u64 a.lo] 24 2 _ rfl
    rwa [show (w.alloc (.cells #[.bool x.n.a.v6, .int .u64 x.n.a.hi, .int .u64 x.n.a.lo, .int .i64 x.n.n, .int .i64 x.t] 28)).heap.size = w.heap.size + 1 by simp] at k
  have n2_0 : (((w.alloc (.cells #[.bool x.n.a.v6, .int .u64 x.n.a.hi, .int .u64 x.n.a.lo, .int .i64 x.n.n, .int .i64 x.t] 28)).alloc (.cells #[.bool a.v6, .int .u64 a.hi, .int .u64 a.lo] 24)).alloc (.cells #[.int .i64 i, .int .i64 j] 29)).cell? ⟨w.heap.size + 2, 0, none⟩ = some (.int .i64 i) := by
    have k := cell_at ((w.alloc (.cells #[.bool x.n.a.v6, .int .u64 x.n.a.hi, .int .u64 x.n.a.lo, .int .i64 x.n.n, .int .i64 x.t] 28)).alloc (.cells #[.bool a.v6, .int .u64 a.hi, .int .u64 a.lo] 24)) #[.int .i64 i, .int .i64 j] 29 0 _ rfl
    rwa [show ((w.alloc (.cells #[.bool x.n.a.v6, .int .u64 x.n.a.hi, .int .u64 x.n.a.lo, .int .i64 x.n.n, .int .i64 x.t] 28)).alloc (.cells #[.bool a.v6, .int .u64 a.hi, .int .u64 a.lo] 24)).heap.size = w.heap.size + 2 by simp] at k
  have n2_1 : (((w.alloc (.cells #[.bool x.n.a.v6, .int .u64 x.n.a.hi, .int .u64 x.n.a.lo, .int .i64 x.n.n, .int .i64 x.t] 28)).alloc (.cells #[.bool a.v6, .int .u64 a.hi, .int .u64 a.lo] 24)).alloc (.cells #[.int .i64 i, .int .i64 j] 29)).cell? ⟨w.heap.size + 2, 1, none⟩ = some (.int .i64 j) := by
    have k := cell_at ((w.alloc (.cells #[.bool x.n.a.v6, .int .u64 x.n.a.hi, .int .u64 x.n.a.lo, .int .i64 x.n.n, .int .i64 x.t] 28)).alloc (.cells #[.bool a.v6, .int .u64 a.hi, .int .u64 a.lo] 24)) #[.int .i64 i, .int .i64 j] 29 1 _ rfl
    rwa [show ((w.alloc (.cells #[.bool x.n.a.v6, .int .u64 x.n.a.hi, .int .u64 x.n.a.lo, .int .i64 x.n.n, .int .i64 x.t] 28)).alloc (.cells #[.bool a.v6, .int .u64 a.hi, .int .u64 a.lo] 24)).heap.size = w.heap.size + 2 by simp] at k
  exact ⟨Ci.cells_left h (Ci.cells_left s0 n0_0), Ci.cells_left h (Ci.cells_left s0 n0_1), Ci.cells_left h (Ci.cells_left s0 n0_2), Ci.cells_left h (Ci.cells_left s0 n0_3), Ci.cells_left h (Ci.cells_left s0 n0_4), Ci.cells_left h (Ci.cells_left s1 n1_0), Ci.cells_left h (Ci.cells_left s1 n1_1), Ci.cells_left h (Ci.cells_left s1 n1_2), Ci.cells_left h n2_0, Ci.cells_left h n2_1, h⟩
theorem S12b.on {x : Ban} {a : Adr} {i j : Int} {w w1 w2 : World} (h : S12b x a i j w w1) (k : Below w1.heap.size w1 w2) : S12b x a i j w w2 := S12b.of (low_trans h.2.2.2.2.2.2.2.2.2.2 k)
theorem S12b.low {x : Ban} {a : Adr} {i j : Int} {w w1 : World} (h : S12b x a i j w w1) : Below w.heap.size w w1 := ((((Below.refl _ _).alloc (by first | (simp; done) | (simp; omega)) _).alloc (by first | (simp; done) | (simp; omega)) _).alloc (by first | (simp; done) | (simp; omega)) _).trans (h.2.2.2.2.2.2.2.2.2.2.mono (by simp; omega))
abbrev S12c (x : Ban) (a : Adr) (i j : Int) (m : Ban) (w w2 : World) (w' : World) : Prop := w'.cell? ⟨w.heap.size, 0, none⟩ = some (.bool x.n.a.v6) ∧ w'.cell? ⟨w.heap.size, 1, none⟩ = some (.int .u64 x.n.a.hi) ∧ w'.cell? ⟨w.heap.size, 2, none⟩ = some (.int .u64 x.n.a.lo) ∧ w'.cell? ⟨w.heap.size, 3, none⟩ = some (.int .i64 x.n.n) ∧ w'.cell? ⟨w.heap.size, 4, none⟩ = some (.int .i64 x.t) ∧ w'.cell? ⟨w.heap.size + 1, 0, none⟩ = some (.bool a.v6) ∧ w'.cell? ⟨w.heap.size + 1, 1, none⟩ = some (.int .u64 a.hi) ∧ w'.cell? ⟨w.heap.size + 1, 2, none⟩ = some (.int .u64 a.lo) ∧ w'.cell? ⟨w.heap.size + 2, 0, none⟩ = some (.int .i64 i) ∧ w'.cell? ⟨w.heap.size + 2, 1, none⟩ = some (.int .i64 j) ∧ w'.cell? ⟨w2.heap.size, 0, none⟩ = some (.bool m.n.a.v6) ∧ w'.cell? ⟨w2.heap.size, 1, none⟩ = some (.int .u64 m.n.a.hi) ∧ w'.cell? ⟨w2.heap.size, 2, none⟩ = some (.int .u64 m.n.a.lo) ∧ w'.cell? ⟨w2.heap.size, 3, none⟩ = some (.int .i64 m.n.n) ∧ w'.cell? ⟨w2.heap.size, 4, none⟩ = some (.int .i64 m.t) ∧ Stays (w2.alloc (.cells #[.bool m.n.a.v6, .int .u64 m.n.a.hi, .int .u64 m.n.a.lo, .int .i64 m.n.n, .int .i64 m.t] 28)) w'
theorem S12c.of {x : Ban} {a : Adr} {i j : Int} {m : Ban} {w w2 w' : World} (h2 : S12b x a i j w w2) (h : Stays (w2.alloc (.cells #[.bool m.n.a.v6, .int .u64 m.n.a.hi, .int .u64 m.n.a.lo, .int .i64 m.n.n, .int .i64 m.t] 28)) w') : S12c x a i j m w w2 w' := by
  obtain ⟨c0, c1, c2, c3, c4, c5, c6, c7, c8, c9, hs⟩ := h2
  have s : Stays w2 (w2.alloc (.cells #[.bool m.n.a.v6, .int .u64 m.n.a.hi, .int .u64 m.n.a.lo, .int .i64 m.n.n, .int .i64 m.t] 28)) := (Below.refl _ _).alloc (Nat.le_refl _) _
  exact ⟨Ci.cells_left h (Ci.cells_left s c0), Ci.cells_left h (Ci.cells_left s c1), Ci.cells_left h (Ci.cells_left s c2), Ci.cells_left h (Ci.cells_left s c3), Ci.cells_left h (Ci.cells_left s c4), Ci.cells_left h (Ci.cells_left s c5), Ci.cells_left h (Ci.cells_left s c6), Ci.cells_left h (Ci.cells_left s c7), Ci.cells_left h (Ci.cells_left s c8), Ci.cells_left h (Ci.cells_left s c9), Ci.cells_left h (cell_at _ _ _ 0 _ rfl), Ci.cells_left h (cell_at _ _ _ 1 _ rfl), Ci.cells_left h (cell_at _ _ _ 2 _ rfl), Ci.cells_left h (cell_at _ _ _ 3 _ rfl), Ci.cells_left h (cell_at _ _ _ 4 _ rfl), h⟩
set_option maxHeartbeats 16000000 in
theorem bback_right_in (w : World) (x : Ban) (hx : x.ok) (a : Adr) (ha : a.ok) (i j : Int) (h1 : -9223372036854775808 ≤ i ∧ i ≤ 9223372036854775807) (h2 : -9223372036854775808 ≤ j ∧ j ≤ 9223372036854775807) (hL : Lens w) (hr : rightB x = true) (hH : hitsB x a (max i j) = true) (hO : hitsB x a (min i j) = true) :
    Calls Tryd.prog 3 #[.agg #[.bool x.n.a.v6, .int .u64 x.n.a.hi, .int .u64 x.n.a.lo, .int .i64 x.n.n, .int .i64 x.t], .agg #[.bool a.v6, .int .u64 a.hi, .int .u64 a.lo], .agg #[.int .i64 i, .int .i64 j]] w fun e w' => e = .returned (.bool true) ∧ Below w.heap.size w w' := by
  have TL := textB_len hx
  have P1 := Lib.hid (parseB_any (textB x))
  unfold ParseBan at P1
  rw [(backB hx hr).1, (backB hx hr).2] at P1
  have T1 : Hid (∀ W, S12b x a i j w W → Calls Tryd.prog 5 #[.agg #[.bool x.n.a.v6, .int .u64 x.n.a.hi, .int .u64 x.n.a.lo, .int .i64 x.n.n, .int .i64 x.t]] W fun e w' => e = .returned (.string ⟨(textB x).toArray⟩) ∧ S12b x a i j w w') := Lib.hid fun W h => by
    have hs := h.2.2.2.2.2.2.2.2.2.2
    have hc : Calls Tryd.prog 5 #[.agg #[.bool x.n.a.v6, .int .u64 x.n.a.hi, .int .u64 x.n.a.lo, .int .i64 x.n.n, .int .i64 x.t]] W fun e w' => e = .returned (.string ⟨(textB x).toArray⟩) ∧ Below W.heap.size W w' := textB_any x W hx
    exact hc.mono fun e w' ⟨he, hb⟩ => ⟨he, S12b.of (low_trans hs hb)⟩
  have NQ : ∀ W, (binOp .neq 28 (.agg #[.bool x.n.a.v6, .int .u64 x.n.a.hi, .int .u64 x.n.a.lo, .int .i64 x.n.n, .int .i64 x.t]) (.agg #[.bool x.n.a.v6, .int .u64 x.n.a.hi, .int .u64 x.n.a.lo, .int .i64 x.n.n, .int .i64 x.t])).run Tryd.prog W = .ok (.bool false) W := fun W => by rw [neqBan, sameB_self]; rfl
  have hk0 : S12b x a i j w (((w.alloc (.cells #[.bool x.n.a.v6, .int .u64 x.n.a.hi, .int .u64 x.n.a.lo, .int .i64 x.n.n, .int .i64 x.t] 28)).alloc (.cells #[.bool a.v6, .int .u64 a.hi, .int .u64 a.lo] 24)).alloc (.cells #[.int .i64 i, .int .i64 j] 29)) := S12b.of (Below.refl _ _)
  obtain ⟨c0, c1, c2, c3, c4, c5, c6, c7, c8, c9, hs⟩ := id hk0
  go_enter Tryd.func3, Tryd.ntmps3
  go_wp2_with fail
  (with_reducible refine (T1.out _ hk0).mono ?_)
  rintro e w1 ⟨rfl, hk1⟩
  clear c0 c1 c2 c3 c4 c5 c6 c7 c8 c9 hs
  go_wp2_with fail
  (with_reducible refine (P1.out _ (by first | omega | simp) (hL.below (S12b.low hk1))).mono ?_)
  rintro e w2 ⟨rfl, hb2⟩
  have hk2 : S12b x a i j w w2 := hk1.on hb2
  clear T1 P1 TL
  have hL3 := hL.below (S12b.low hk2)
  have hL4 := hL3.below ((Below.refl w2.heap.size w2).alloc (Nat.le_refl _) (.cells #[.bool x.n.a.v6, .int .u64 x.n.a.hi, .int .u64 x.n.a.lo, .int .i64 x.n.n, .int .i64 x.t] 28))
  have K1 : Hid (∀ W, S12c x a i j x w w2 W → Calls Tryd.prog 6 #[.agg #[.bool x.n.a.v6, .int .u64 x.n.a.hi, .int .u64 x.n.a.lo, .int .i64 x.n.n, .int .i64 x.t]] W fun e w' => e = .returned (.bool true) ∧ S12c x a i j x w w2 w') := Lib.hid fun W h => by
    have hs : Stays (w2.alloc (.cells #[.bool x.n.a.v6, .int .u64 x.n.a.hi, .int .u64 x.n.a.lo, .int .i64 x.n.n, .int .i64 x.t] 28)) W := h.2.2.2.2.2.2.2.2.2.2.2.2.2.2.2
    have hc : Calls Tryd.prog 6 #[.agg #[.bool x.n.a.v6, .int .u64 x.n.a.hi, .int .u64 x.n.a.lo, .int .i64 x.n.n, .int .i64 x.t]] W fun e w' => e = .returned (.bool true) ∧ Below W.heap.size W w' := by have k := rightB_any x W hx; rwa [hr] at k
    exact hc.mono fun e w' ⟨he, hb⟩ => ⟨he, S12c.of hk2 (low_trans hs hb)⟩
  have K9 : Hid (∀ W, S12c x a i j x w w2 W → Calls Tryd.prog 9 #[] W fun e w' => e = .returned (.bool true) ∧ S12c x a i j x w w2 w') := Lib.hid fun W h => by
    have hs : Stays (w2.alloc (.cells #[.bool x.n.a.v6, .int .u64 x.n.a.hi, .int .u64 x.n.a.lo, .int .i64 x.n.n, .int .i64 x.t] 28)) W := h.2.2.2.2.2.2.2.2.2.2.2.2.2.2.2
    have hc : Calls Tryd.prog 9 #[] W fun e w' => e = .returned (.bool true) ∧ Below W.heap.size W w' := awake12_any W (hL4.below hs)
    exact hc.mono fun e w' ⟨he, hb⟩ => ⟨he, S12c.of hk2 (low_trans hs hb)⟩
  have hk3 : S12c x a i j x w w2 (w2.alloc (.cells #[.bool x.n.a.v6, .int .u64 x.n.a.hi, .int .u64 x.n.a.lo, .int .i64 x.n.n, .int .i64 x.t] 28)) := S12c.of hk2 (Below.refl _ _)
  obtain ⟨c0, c1, c2, c3, c4, c5, c6, c7, c8, c9, c10, c11, c12, c13, c14, hs3⟩ := id hk3
  go_wp2_with fail
  (with_reducible refine (K1.out _ hk3).mono ?_)
  rintro e w4 ⟨rfl, hk4⟩
  clear c0 c1 c2 c3 c4 c5 c6 c7 c8 c9 c10 c11 c12 c13 c14 hs3
  obtain ⟨c0, c1, c2, c3, c4, c5, c6, c7, c8, c9, c10, c11, c12, c13, c14, hs4⟩ := id hk4
  go_upto_region 4 with fail
  go_cut [9, 10] (fun s9 s10 wx => s9 = .int .i64 (min i j) ∧ s10 = .int .i64 (max i j) ∧ S12c x a i j x w w2 wx)
  case first =>
    rcases Int.lt_trichotomy i j with hij | hij | hij
    all_goals
      go_region
      all_goals go_wp2_with fail
      all_goals go_meet
      all_goals exact ⟨by first | rfl | (congr 1; omega), by first | rfl | (congr 1; omega), S12c.of hk2 (low_drewN hk4.2.2.2.2.2.2.2.2.2.2.2.2.2.2.2 1)⟩
  case rest =>
    obtain ⟨rfl, rfl, hk5⟩ := hcut
    clear c0 c1 c2 c3 c4 c5 c6 c7 c8 c9 c10 c11 c12 c13 c14 hs4
    have HL := Lib.hid hH
    have HM := Lib.hid hO
    generalize hgL : min i j = lo at *
    generalize hgH : max i j = hi at *
    have K2 : Hid (∀ W, S12c x a i j x w w2 W → Calls Tryd.prog 7 #[.agg #[.bool x.n.a.v6, .int .u64 x.n.a.hi, .int .u64 x.n.a.lo, .int .i64 x.n.n, .int .i64 x.t], .agg #[.bool a.v6, .int .u64 a.hi, .int .u64 a.lo], .int .i64 hi] W fun e w' => e = .returned (.bool true) ∧ S12c x a i j x w w2 w') := Lib.hid fun W h => by
      have hs : Stays (w2.alloc (.cells #[.bool x.n.a.v6, .int .u64 x.n.a.hi, .int .u64 x.n.a.lo, .int .i64 x.n.n, .int .i64 x.t] 28)) W := h.2.2.2.2.2.2.2.2.2.2.2.2.2.2.2
      have hc : Calls Tryd.prog 7 #[.agg #[.bool x.n.a.v6, .int .u64 x.n.a.hi, .int .u64 x.n.a.lo, .int .i64 x.n.n, .int .i64 x.t], .agg #[.bool a.v6, .int .u64 a.hi, .int .u64 a.lo], .int .i64 hi] W fun e w' => e = .returned (.bool true) ∧ Below W.heap.size W w' := by have k := hitsB_any x a hi W hx ha; rwa [HL.out] at k
      exact hc.mono fun e w' ⟨he, hb⟩ => ⟨he, S12c.of hk2 (low_trans hs hb)⟩
    have K3 : Hid (∀ W, S12c x a i j x w w2 W → Calls Tryd.prog 7 #[.agg #[.bool x.n.a.v6, .int .u64 x.n.a.hi, .int .u64 x.n.a.lo, .int .i64 x.n.n, .int .i64 x.t], .agg #[.bool a.v6, .int .u64 a.hi, .int .u64 a.lo], .int .i64 lo] W fun e w' => e = .returned (.bool true) ∧ S12c x a i j x w w2 w') := Lib.hid fun W h => by
      have hs : Stays (w2.alloc (.cells #[.bool x.n.a.v6, .int .u64 x.n.a.hi, .int .u64 x.n.a.lo, .int .i64 x.n.n, .int .i64 x.t] 28)) W := h.2.2.2.2.2.2.2.2.2.2.2.2.2.2.2
      have hc : Calls Tryd.prog 7 #[.agg #[.bool x.n.a.v6, .int .u64 x.n.a.hi, .int .u64 x.n.a.lo, .int .i64 x.n.n, .int .i64 x.t], .agg #[.bool a.v6, .int .u64 a.hi, .int .u64 a.lo], .int .i64 lo] W fun e w' => e = .returned (.bool true) ∧ Below W.heap.size W w' := by have k := hitsB_any x a lo W hx ha; rwa [HM.out] at k
      exact hc.mono fun e w' ⟨he, hb⟩ => ⟨he, S12c.of hk2 (low_trans hs hb)⟩
    have K4 : Hid (∀ W, S12c x a i j x w w2 W → Calls Tryd.prog 8 #[.agg #[.bool x.n.a.v6, .int .u64 x.n.a.hi, .int .u64 x.n.a.lo, .int .i64 x.n.n, .int .i64 x.t], .int .i64 lo] W fun e w' => e = .returned (.bool true) ∧ S12c x a i j x w w2 w') := Lib.hid fun W h => by
      have hs : Stays (w2.alloc (.cells #[.bool x.n.a.v6, .int .u64 x.n.a.hi, .int .u64 x.n.a.lo, .int .i64 x.n.n, .int .i64 x.t] 28)) W := h.2.2.2.2.2.2.2.2.2.2.2.2.2.2.2
      have hc : Calls Tryd.prog 8 #[.agg #[.bool x.n.a.v6, .int .u64 x.n.a.hi, .int .u64 x.n.a.lo, .int .i64 x.n.n, .int .i64 x.t], .int .i64 lo] W fun e w' => e = .returned (.bool true) ∧ Below W.heap.size W w' := by have k := livesB_any x lo W; rwa [show livesB x lo = true from by have := HM.out; unfold hitsB at this; rw [Bool.and_eq_true] at this; exact this.1] at k
      exact hc.mono fun e w' ⟨he, hb⟩ => ⟨he, S12c.of hk2 (low_trans hs hb)⟩
    obtain ⟨c0, c1, c2, c3, c4, c5, c6, c7, c8, c9, c10, c11, c12, c13, c14, hs5⟩ := id hk5
    go_wp2_with fail
    (with_reducible refine (K2.out _ hk5).mono ?_)
    rintro e w6 ⟨rfl, hk6⟩
    clear c0 c1 c2 c3 c4 c5 c6 c7 c8 c9 c10 c11 c12 c13 c14 hs5
    obtain ⟨c0, c1, c2, c3, c4, c5, c6, c7, c8, c9, c10, c11, c12, c13, c14, hs6⟩ := id hk6
    go_wp2_with fail
    (with_reducible refine (K3.out _ hk6).mono ?_)
    rintro e w7 ⟨rfl, hk7⟩
    clear c0 c1 c2 c3 c4 c5 c6 c7 c8 c9 c10 c11 c12 c13 c14 hs6
    obtain ⟨c0, c1, c2, c3, c4, c5, c6, c7, c8, c9, c10, c11, c12, c13, c14, hs7⟩ := id hk7
    go_wp2_with fail
    (with_reducible refine (K3.out _ hk7).mono ?_)
    rintro e w8 ⟨rfl, hk8⟩
    clear c0 c1 c2 c3 c4 c5 c6 c7 c8 c9 c10 c11 c12 c13 c14 hs7
    obtain ⟨c0, c1, c2, c3, c4, c5, c6, c7, c8, c9, c10, c11, c12, c13, c14, hs8⟩ := id hk8
    go_wp2_with fail
    (with_reducible refine (K4.out _ hk8).mono ?_)
    rintro e w9 ⟨rfl, hk9⟩
    clear c0 c1 c2 c3 c4 c5 c6 c7 c8 c9 c10 c11 c12 c13 c14 hs8
    obtain ⟨c0, c1, c2, c3, c4, c5, c6, c7, c8, c9, c10, c11, c12, c13, c14, hs9⟩ := id hk9
    go_wp2_with fail
    (with_reducible refine (K9.out _ hk9).mono ?_)
    rintro e w10 ⟨rfl, hk10⟩
    clear c0 c1 c2 c3 c4 c5 c6 c7 c8 c9 c10 c11 c12 c13 c14 hs9
    obtain ⟨c0, c1, c2, c3, c4, c5, c6, c7, c8, c9, c10, c11, c12, c13, c14, hs10⟩ := id hk10
    go_wp2_with fail
    go_ret
    exact ⟨rfl, (S12b.low hk2).trans (((Below.refl _ _).alloc (Nat.le_refl _) _).trans (hs10.mono (by simp)) |>.mono (S12b.low hk2).size)⟩
set_option maxHeartbeats 16000000 in
theorem bback_right_out (w : World) (x : Ban) (hx : x.ok) (a : Adr) (ha : a.ok) (i j : Int) (h1 : -9223372036854775808 ≤ i ∧ i ≤ 9223372036854775807) (h2 : -9223372036854775808 ≤ j ∧ j ≤ 9223372036854775807) (hL : Lens w) (hr : rightB x = true) (hH : hitsB x a (max i j) = false) (hO : hitsB x a (min i j) = false) :
    Calls Tryd.prog 3 #[.agg #[.bool x.n.a.v6, .int .u64 x.n.a.hi, .int .u64 x.n.a.lo, .int .i64 x.n.n, .int .i64 x.t], .agg #[.bool a.v6, .int .u64 a.hi, .int .u64 a.lo], .agg #[.int .i64 i, .int .i64 j]] w fun e w' => e = .returned (.bool true) ∧ Below w.heap.size w w' := by
  have TL := textB_len hx
  have P1 := Lib.hid (parseB_any (textB x))
  unfold ParseBan at P1
  rw [(backB hx hr).1, (backB hx hr).2] at P1
  have T1 : Hid (∀ W, S12b x a i j w W → Calls Tryd.prog 5 #[.agg #[.bool x.n.a.v6, .int .u64 x.n.a.hi, .int .u64 x.n.a.lo, .int .i64 x.n.n, .int .i64 x.t]] W fun e w' => e = .returned (.string ⟨(textB x).toArray⟩) ∧ S12b x a i j w w') := Lib.hid fun W h => by
    have hs := h.2.2.2.2.2.2.2.2.2.2
    have hc : Calls Tryd.prog 5 #[.agg #[.bool x.n.a.v6, .int .u64 x.n.a.hi, .int .u64 x.n.a.lo, .int .i64 x.n.n, .int .i64 x.t]] W fun e w' => e = .returned (.string ⟨(textB x).toArray⟩) ∧ Below W.heap.size W w' := textB_any x W hx
    exact hc.mono fun e w' ⟨he, hb⟩ => ⟨he, S12b.of (low_trans hs hb)⟩
  have NQ : ∀ W, (binOp .neq 28 (.agg #[.bool x.n.a.v6, .int .u64 x.n.a.hi, .int .u64 x.n.a.lo, .int .i64 x.n.n, .int .i64 x.t]) (.agg #[.bool x.n.a.v6, .int .u64 x.n.a.hi, .int .u64 x.n.a.lo, .int .i64 x.n.n, .int .i64 x.t])).run Tryd.prog W = .ok (.bool false) W := fun W => by rw [neqBan, sameB_self]; rfl
  have hk0 : S12b x a i j w (((w.alloc (.cells #[.bool x.n.a.v6, .int .u64 x.n.a.hi, .int .u64 x.n.a.lo, .int .i64 x.n.n, .int .i64 x.t] 28)).alloc (.cells #[.bool a.v6, .int .u64 a.hi, .int .u64 a.lo] 24)).alloc (.cells #[.int .i64 i, .int .i64 j] 29)) := S12b.of (Below.refl _ _)
  obtain ⟨c0, c1, c2, c3, c4, c5, c6, c7, c8, c9, hs⟩ := id hk0
  go_enter Tryd.func3, Tryd.ntmps3
  go_wp2_with fail
  (with_reducible refine (T1.out _ hk0).mono ?_)
  rintro e w1 ⟨rfl, hk1⟩
  clear c0 c1 c2 c3 c4 c5 c6 c7 c8 c9 hs
  go_wp2_with fail
  (with_reducible refine (P1.out _ (by first | omega | simp) (hL.below (S12b.low hk1))).mono ?_)
  rintro e w2 ⟨rfl, hb2⟩
  have hk2 : S12b x a i j w w2 := hk1.on hb2
  clear T1 P1 TL
  have hL3 := hL.below (S12b.low hk2)
  have hL4 := hL3.below ((Below.refl w2.heap.size w2).alloc (Nat.le_refl _) (.cells #[.bool x.n.a.v6, .int .u64 x.n.a.hi, .int .u64 x.n.a.lo, .int .i64 x.n.n, .int .i64 x.t] 28))
  have K1 : Hid (∀ W, S12c x a i j x w w2 W → Calls Tryd.prog 6 #[.agg #[.bool x.n.a.v6, .int .u64 x.n.a.hi, .int .u64 x.n.a.lo, .int .i64 x.n.n, .int .i64 x.t]] W fun e w' => e = .returned (.bool true) ∧ S12c x a i j x w w2 w') := Lib.hid fun W h => by
    have hs : Stays (w2.alloc (.cells #[.bool x.n.a.v6, .int .u64 x.n.a.hi, .int .u64 x.n.a.lo, .int .i64 x.n.n, .int .i64 x.t] 28)) W := h.2.2.2.2.2.2.2.2.2.2.2.2.2.2.2
    have hc : Calls Tryd.prog 6 #[.agg #[.bool x.n.a.v6, .int .u64 x.n.a.hi, .int .u64 x.n.a.lo, .int .i64 x.n.n, .int .i64 x.t]] W fun e w' => e = .returned (.bool true) ∧ Below W.heap.size W w' := by have k := rightB_any x W hx; rwa [hr] at k
    exact hc.mono fun e w' ⟨he, hb⟩ => ⟨he, S12c.of hk2 (low_trans hs hb)⟩
  have K9 : Hid (∀ W, S12c x a i j x w w2 W → Calls Tryd.prog 9 #[] W fun e w' => e = .returned (.bool true) ∧ S12c x a i j x w w2 w') := Lib.hid fun W h => by
    have hs : Stays (w2.alloc (.cells #[.bool x.n.a.v6, .int .u64 x.n.a.hi, .int .u64 x.n.a.lo, .int .i64 x.n.n, .int .i64 x.t] 28)) W := h.2.2.2.2.2.2.2.2.2.2.2.2.2.2.2
    have hc : Calls Tryd.prog 9 #[] W fun e w' => e = .returned (.bool true) ∧ Below W.heap.size W w' := awake12_any W (hL4.below hs)
    exact hc.mono fun e w' ⟨he, hb⟩ => ⟨he, S12c.of hk2 (low_trans hs hb)⟩
  have hk3 : S12c x a i j x w w2 (w2.alloc (.cells #[.bool x.n.a.v6, .int .u64 x.n.a.hi, .int .u64 x.n.a.lo, .int .i64 x.n.n, .int .i64 x.t] 28)) := S12c.of hk2 (Below.refl _ _)
  obtain ⟨c0, c1, c2, c3, c4, c5, c6, c7, c8, c9, c10, c11, c12, c13, c14, hs3⟩ := id hk3
  go_wp2_with fail
  (with_reducible refine (K1.out _ hk3).mono ?_)
  rintro e w4 ⟨rfl, hk4⟩
  clear c0 c1 c2 c3 c4 c5 c6 c7 c8 c9 c10 c11 c12 c13 c14 hs3
  obtain ⟨c0, c1, c2, c3, c4, c5, c6, c7, c8, c9, c10, c11, c12, c13, c14, hs4⟩ := id hk4
  go_upto_region 4 with fail
  go_cut [9, 10] (fun s9 s10 wx => s9 = .int .i64 (min i j) ∧ s10 = .int .i64 (max i j) ∧ S12c x a i j x w w2 wx)
  case first =>
    rcases Int.lt_trichotomy i j with hij | hij | hij
    all_goals
      go_region
      all_goals go_wp2_with fail
      all_goals go_meet
      all_goals exact ⟨by first | rfl | (congr 1; omega), by first | rfl | (congr 1; omega), S12c.of hk2 (low_drewN hk4.2.2.2.2.2.2.2.2.2.2.2.2.2.2.2 1)⟩
  case rest =>
    obtain ⟨rfl, rfl, hk5⟩ := hcut
    clear c0 c1 c2 c3 c4 c5 c6 c7 c8 c9 c10 c11 c12 c13 c14 hs4
    have HL := Lib.hid hH
    have HM := Lib.hid hO
    generalize hgL : min i j = lo at *
    generalize hgH : max i j = hi at *
    have K2 : Hid (∀ W, S12c x a i j x w w2 W → Calls Tryd.prog 7 #[.agg #[.bool x.n.a.v6, .int .u64 x.n.a.hi, .int .u64 x.n.a.lo, .int .i64 x.n.n, .int .i64 x.t], .agg #[.bool a.v6, .int .u64 a.hi, .int .u64 a.lo], .int .i64 hi] W fun e w' => e = .returned (.bool false) ∧ S12c x a i j x w w2 w') := Lib.hid fun W h => by
      have hs : Stays (w2.alloc (.cells #[.bool x.n.a.v6, .int .u64 x.n.a.hi, .int .u64 x.n.a.lo, .int .i64 x.n.n, .int .i64 x.t] 28)) W := h.2.2.2.2.2.2.2.2.2.2.2.2.2.2.2
      have hc : Calls Tryd.prog 7 #[.agg #[.bool x.n.a.v6, .int .u64 x.n.a.hi, .int .u64 x.n.a.lo, .int .i64 x.n.n, .int .i64 x.t], .agg #[.bool a.v6, .int .u64 a.hi, .int .u64 a.lo], .int .i64 hi] W fun e w' => e = .returned (.bool false) ∧ Below W.heap.size W w' := by have k := hitsB_any x a hi W hx ha; rwa [HL.out] at k
      exact hc.mono fun e w' ⟨he, hb⟩ => ⟨he, S12c.of hk2 (low_trans hs hb)⟩
    have K3 : Hid (∀ W, S12c x a i j x w w2 W → Calls Tryd.prog 7 #[.agg #[.bool x.n.a.v6, .int .u64 x.n.a.hi, .int .u64 x.n.a.lo, .int .i64 x.n.n, .int .i64 x.t], .agg #[.bool a.v6, .int .u64 a.hi, .int .u64 a.lo], .int .i64 lo] W fun e w' => e = .returned (.bool false) ∧ S12c x a i j x w w2 w') := Lib.hid fun W h => by
      have hs : Stays (w2.alloc (.cells #[.bool x.n.a.v6, .int .u64 x.n.a.hi, .int .u64 x.n.a.lo, .int .i64 x.n.n, .int .i64 x.t] 28)) W := h.2.2.2.2.2.2.2.2.2.2.2.2.2.2.2
      have hc : Calls Tryd.prog 7 #[.agg #[.bool x.n.a.v6, .int .u64 x.n.a.hi, .int .u64 x.n.a.lo, .int .i64 x.n.n, .int .i64 x.t], .agg #[.bool a.v6, .int .u64 a.hi, .int .u64 a.lo], .int .i64 lo] W fun e w' => e = .returned (.bool false) ∧ Below W.heap.size W w' := by have k := hitsB_any x a lo W hx ha; rwa [HM.out] at k
      exact hc.mono fun e w' ⟨he, hb⟩ => ⟨he, S12c.of hk2 (low_trans hs hb)⟩
    obtain ⟨c0, c1, c2, c3, c4, c5, c6, c7, c8, c9, c10, c11, c12, c13, c14, hs5⟩ := id hk5
    go_wp2_with fail
    (with_reducible refine (K2.out _ hk5).mono ?_)
    rintro e w6 ⟨rfl, hk6⟩
    clear c0 c1 c2 c3 c4 c5 c6 c7 c8 c9 c10 c11 c12 c13 c14 hs5
    obtain ⟨c0, c1, c2, c3, c4, c5, c6, c7, c8, c9, c10, c11, c12, c13, c14, hs6⟩ := id hk6
    go_wp2_with fail
    (with_reducible refine (K3.out _ hk6).mono ?_)
    rintro e w7 ⟨rfl, hk7⟩
    clear c0 c1 c2 c3 c4 c5 c6 c7 c8 c9 c10 c11 c12 c13 c14 hs6
    obtain ⟨c0, c1, c2, c3, c4, c5, c6, c7, c8, c9, c10, c11, c12, c13, c14, hs7⟩ := id hk7
    go_wp2_with fail
    (with_reducible refine (K9.out _ hk7).mono ?_)
    rintro e w8 ⟨rfl, hk8⟩
    clear c0 c1 c2 c3 c4 c5 c6 c7 c8 c9 c10 c11 c12 c13 c14 hs7
    obtain ⟨c0, c1, c2, c3, c4, c5, c6, c7, c8, c9, c10, c11, c12, c13, c14, hs8⟩ := id hk8
    go_wp2_with fail
    go_ret
    exact ⟨rfl, (S12b.low hk2).trans (((Below.refl _ _).alloc (Nat.le_refl _) _).trans (hs8.mono (by simp)) |>.mono (S12b.low hk2).size)⟩
set_option maxHeartbeats 16000000 in
theorem bback_right_left (w : World) (x : Ban) (hx : x.ok) (a : Adr) (ha : a.ok) (i j : Int) (h1 : -9223372036854775808 ≤ i ∧ i ≤ 9223372036854775807) (h2 : -9223372036854775808 ≤ j ∧ j ≤ 9223372036854775807) (hL : Lens w) (hr : rightB x = true) (hH : hitsB x a (max i j) = false) (hO : hitsB x a (min i j) = true) :
    Calls Tryd.prog 3 #[.agg #[.bool x.n.a.v6, .int .u64 x.n.a.hi, .int .u64 x.n.a.lo, .int .i64 x.n.n, .int .i64 x.t], .agg #[.bool a.v6, .int .u64 a.hi, .int .u64 a.lo], .agg #[.int .i64 i, .int .i64 j]] w fun e w' => e = .returned (.bool true) ∧ Below w.heap.size w w' := by
  have TL := textB_len hx
  have P1 := Lib.hid (parseB_any (textB x))
  unfold ParseBan at P1
  rw [(backB hx hr).1, (backB hx hr).2] at P1
  have T1 : Hid (∀ W, S12b x a i j w W → Calls Tryd.prog 5 #[.agg #[.bool x.n.a.v6, .int .u64 x.n.a.hi, .int .u64 x.n.a.lo, .int .i64 x.n.n, .int .i64 x.t]] W fun e w' => e = .returned (.string ⟨(textB x).toArray⟩) ∧ S12b x a i j w w') := Lib.hid fun W h => by
    have hs := h.2.2.2.2.2.2.2.2.2.2
    have hc : Calls Tryd.prog 5 #[.agg #[.bool x.n.a.v6, .int .u64 x.n.a.hi, .int .u64 x.n.a.lo, .int .i64 x.n.n, .int .i64 x.t]] W fun e w' => e = .returned (.string ⟨(textB x).toArray⟩) ∧ Below W.heap.size W w' := textB_any x W hx
    exact hc.mono fun e w' ⟨he, hb⟩ => ⟨he, S12b.of (low_trans hs hb)⟩
  have NQ : ∀ W, (binOp .neq 28 (.agg #[.bool x.n.a.v6, .int .u64 x.n.a.hi, .int .u64 x.n.a.lo, .int .i64 x.n.n, .int .i64 x.t]) (.agg #[.bool x.n.a.v6, .int .u64 x.n.a.hi, .int .u64 x.n.a.lo, .int .i64 x.n.n, .int .i64 x.t])).run Tryd.prog W = .ok (.bool false) W := fun W => by rw [neqBan, sameB_self]; rfl
  have hk0 : S12b x a i j w (((w.alloc (.cells #[.bool x.n.a.v6, .int .u64 x.n.a.hi, .int .u64 x.n.a.lo, .int .i64 x.n.n, .int .i64 x.t] 28)).alloc (.cells #[.bool a.v6, .int .u64 a.hi, .int .u64 a.lo] 24)).alloc (.cells #[.int .i64 i, .int .i64 j] 29)) := S12b.of (Below.refl _ _)
  obtain ⟨c0, c1, c2, c3, c4, c5, c6, c7, c8, c9, hs⟩ := id hk0
  go_enter Tryd.func3, Tryd.ntmps3
  go_wp2_with fail
  (with_reducible refine (T1.out _ hk0).mono ?_)
  rintro e w1 ⟨rfl, hk1⟩
  clear c0 c1 c2 c3 c4 c5 c6 c7 c8 c9 hs
  go_wp2_with fail
  (with_reducible refine (P1.out _ (by first | omega | simp) (hL.below (S12b.low hk1))).mono ?_)
  rintro e w2 ⟨rfl, hb2⟩
  have hk2 : S12b x a i j w w2 := hk1.on hb2
  clear T1 P1 TL
  have hL3 := hL.below (S12b.low hk2)
  have hL4 := hL3.below ((Below.refl w2.heap.size w2).alloc (Nat.le_refl _) (.cells #[.bool x.n.a.v6, .int .u64 x.n.a.hi, .int .u64 x.n.a.lo, .int .i64 x.n.n, .int .i64 x.t] 28))
  have K1 : Hid (∀ W, S12c x a i j x w w2 W → Calls Tryd.prog 6 #[.agg #[.bool x.n.a.v6, .int .u64 x.n.a.hi, .int .u64 x.n.a.lo, .int .i64 x.n.n, .int .i64 x.t]] W fun e w' => e = .returned (.bool true) ∧ S12c x a i j x w w2 w') := Lib.hid fun W h => by
    have hs : Stays (w2.alloc (.cells #[.bool x.n.a.v6, .int .u64 x.n.a.hi, .int .u64 x.n.a.lo, .int .i64 x.n.n, .int .i64 x.t] 28)) W := h.2.2.2.2.2.2.2.2.2.2.2.2.2.2.2
    have hc : Calls Tryd.prog 6 #[.agg #[.bool x.n.a.v6, .int .u64 x.n.a.hi, .int .u64 x.n.a.lo, .int .i64 x.n.n, .int .i64 x.t]] W fun e w' => e = .returned (.bool true) ∧ Below W.heap.size W w' := by have k := rightB_any x W hx; rwa [hr] at k
    exact hc.mono fun e w' ⟨he, hb⟩ => ⟨he, S12c.of hk2 (low_trans hs hb)⟩
  have K9 : Hid (∀ W, S12c x a i j x w w2 W → Calls Tryd.prog 9 #[] W fun e w' => e = .returned (.bool true) ∧ S12c x a i j x w w2 w') := Lib.hid fun W h => by
    have hs : Stays (w2.alloc (.cells #[.bool x.n.a.v6, .int .u64 x.n.a.hi, .int .u64 x.n.a.lo, .int .i64 x.n.n, .int .i64 x.t] 28)) W := h.2.2.2.2.2.2.2.2.2.2.2.2.2.2.2
    have hc : Calls Tryd.prog 9 #[] W fun e w' => e = .returned (.bool true) ∧ Below W.heap.size W w' := awake12_any W (hL4.below hs)
    exact hc.mono fun e w' ⟨he, hb⟩ => ⟨he, S12c.of hk2 (low_trans hs hb)⟩
  have hk3 : S12c x a i j x w w2 (w2.alloc (.cells #[.bool x.n.a.v6, .int .u64 x.n.a.hi, .int .u64 x.n.a.lo, .int .i64 x.n.n, .int .i64 x.t] 28)) := S12c.of hk2 (Below.refl _ _)
  obtain ⟨c0, c1, c2, c3, c4, c5, c6, c7, c8, c9, c10, c11, c12, c13, c14, hs3⟩ := id hk3
  go_wp2_with fail
  (with_reducible refine (K1.out _ hk3).mono ?_)
  rintro e w4 ⟨rfl, hk4⟩
  clear c0 c1 c2 c3 c4 c5 c6 c7 c8 c9 c10 c11 c12 c13 c14 hs3
  obtain ⟨c0, c1, c2, c3, c4, c5, c6, c7, c8, c9, c10, c11, c12, c13, c14, hs4⟩ := id hk4
  go_upto_region 4 with fail
  go_cut [9, 10] (fun s9 s10 wx => s9 = .int .i64 (min i j) ∧ s10 = .int .i64 (max i j) ∧ S12c x a i j x w w2 wx)
  case first =>
    rcases Int.lt_trichotomy i j with hij | hij | hij
    all_goals
      go_region
      all_goals go_wp2_with fail
      all_goals go_meet
      all_goals exact ⟨by first | rfl | (congr 1; omega), by first | rfl | (congr 1; omega), S12c.of hk2 (low_drewN hk4.2.2.2.2.2.2.2.2.2.2.2.2.2.2.2 1)⟩
  case rest =>
    obtain ⟨rfl, rfl, hk5⟩ := hcut
    clear c0 c1 c2 c3 c4 c5 c6 c7 c8 c9 c10 c11 c12 c13 c14 hs4
    have HL := Lib.hid hH
    have HM := Lib.hid hO
    generalize hgL : min i j = lo at *
    generalize hgH : max i j = hi at *
    have K2 : Hid (∀ W, S12c x a i j x w w2 W → Calls Tryd.prog 7 #[.agg #[.bool x.n.a.v6, .int .u64 x.n.a.hi, .int .u64 x.n.a.lo, .int .i64 x.n.n, .int .i64 x.t], .agg #[.bool a.v6, .int .u64 a.hi, .int .u64 a.lo], .int .i64 hi] W fun e w' => e = .returned (.bool false) ∧ S12c x a i j x w w2 w') := Lib.hid fun W h => by
      have hs : Stays (w2.alloc (.cells #[.bool x.n.a.v6, .int .u64 x.n.a.hi, .int .u64 x.n.a.lo, .int .i64 x.n.n, .int .i64 x.t] 28)) W := h.2.2.2.2.2.2.2.2.2.2.2.2.2.2.2
      have hc : Calls Tryd.prog 7 #[.agg #[.bool x.n.a.v6, .int .u64 x.n.a.hi, .int .u64 x.n.a.lo, .int .i64 x.n.n, .int .i64 x.t], .agg #[.bool a.v6, .int .u64 a.hi, .int .u64 a.lo], .int .i64 hi] W fun e w' => e = .returned (.bool false) ∧ Below W.heap.size W w' := by have k := hitsB_any x a hi W hx ha; rwa [HL.out] at k
      exact hc.mono fun e w' ⟨he, hb⟩ => ⟨he, S12c.of hk2 (low_trans hs hb)⟩
    have K3 : Hid (∀ W, S12c x a i j x w w2 W → Calls Tryd.prog 7 #[.agg #[.bool x.n.a.v6, .int .u64 x.n.a.hi, .int .u64 x.n.a.lo, .int .i64 x.n.n, .int .i64 x.t], .agg #[.bool a.v6, .int .u64 a.hi, .int .u64 a.lo], .int .i64 lo] W fun e w' => e = .returned (.bool true) ∧ S12c x a i j x w w2 w') := Lib.hid fun W h => by
      have hs : Stays (w2.alloc (.cells #[.bool x.n.a.v6, .int .u64 x.n.a.hi, .int .u64 x.n.a.lo, .int .i64 x.n.n, .int .i64 x.t] 28)) W := h.2.2.2.2.2.2.2.2.2.2.2.2.2.2.2
      have hc : Calls Tryd.prog 7 #[.agg #[.bool x.n.a.v6, .int .u64 x.n.a.hi, .int .u64 x.n.a.lo, .int .i64 x.n.n, .int .i64 x.t], .agg #[.bool a.v6, .int .u64 a.hi, .int .u64 a.lo], .int .i64 lo] W fun e w' => e = .returned (.bool true) ∧ Below W.heap.size W w' := by have k := hitsB_any x a lo W hx ha; rwa [HM.out] at k
      exact hc.mono fun e w' ⟨he, hb⟩ => ⟨he, S12c.of hk2 (low_trans hs hb)⟩
    have K4 : Hid (∀ W, S12c x a i j x w w2 W → Calls Tryd.prog 8 #[.agg #[.bool x.n.a.v6, .int .u64 x.n.a.hi, .int .u64 x.n.a.lo, .int .i64 x.n.n, .int .i64 x.t], .int .i64 lo] W fun e w' => e = .returned (.bool true) ∧ S12c x a i j x w w2 w') := Lib.hid fun W h => by
      have hs : Stays (w2.alloc (.cells #[.bool x.n.a.v6, .int .u64 x.n.a.hi, .int .u64 x.n.a.lo, .int .i64 x.n.n, .int .i64 x.t] 28)) W := h.2.2.2.2.2.2.2.2.2.2.2.2.2.2.2
      have hc : Calls Tryd.prog 8 #[.agg #[.bool x.n.a.v6, .int .u64 x.n.a.hi, .int .u64 x.n.a.lo, .int .i64 x.n.n, .int .i64 x.t], .int .i64 lo] W fun e w' => e = .returned (.bool true) ∧ Below W.heap.size W w' := by have k := livesB_any x lo W; rwa [show livesB x lo = true from by have := HM.out; unfold hitsB at this; rw [Bool.and_eq_true] at this; exact this.1] at k
      exact hc.mono fun e w' ⟨he, hb⟩ => ⟨he, S12c.of hk2 (low_trans hs hb)⟩
    obtain ⟨c0, c1, c2, c3, c4, c5, c6, c7, c8, c9, c10, c11, c12, c13, c14, hs5⟩ := id hk5
    go_wp2_with fail
    (with_reducible refine (K2.out _ hk5).mono ?_)
    rintro e w6 ⟨rfl, hk6⟩
    clear c0 c1 c2 c3 c4 c5 c6 c7 c8 c9 c10 c11 c12 c13 c14 hs5
    obtain ⟨c0, c1, c2, c3, c4, c5, c6, c7, c8, c9, c10, c11, c12, c13, c14, hs6⟩ := id hk6
    go_wp2_with fail
    (with_reducible refine (K3.out _ hk6).mono ?_)
    rintro e w7 ⟨rfl, hk7⟩
    clear c0 c1 c2 c3 c4 c5 c6 c7 c8 c9 c10 c11 c12 c13 c14 hs6
    obtain ⟨c0, c1, c2, c3, c4, c5, c6, c7, c8, c9, c10, c11, c12, c13, c14, hs7⟩ := id hk7
    go_wp2_with fail
    (with_reducible refine (K4.out _ hk7).mono ?_)
    rintro e w8 ⟨rfl, hk8⟩
    clear c0 c1 c2 c3 c4 c5 c6 c7 c8 c9 c10 c11 c12 c13 c14 hs7
    obtain ⟨c0, c1, c2, c3, c4, c5, c6, c7, c8, c9, c10, c11, c12, c13, c14, hs8⟩ := id hk8
    go_wp2_with fail
    (with_reducible refine (K9.out _ hk8).mono ?_)
    rintro e w9 ⟨rfl, hk9⟩
    clear c0 c1 c2 c3 c4 c5 c6 c7 c8 c9 c10 c11 c12 c13 c14 hs8
    obtain ⟨c0, c1, c2, c3, c4, c5, c6, c7, c8, c9, c10, c11, c12, c13, c14, hs9⟩ := id hk9
    go_wp2_with fail
    go_ret
    exact ⟨rfl, (S12b.low hk2).trans (((Below.refl _ _).alloc (Nat.le_refl _) _).trans (hs9.mono (by simp)) |>.mono (S12b.low hk2).size)⟩
set_option maxHeartbeats 16000000 in
theorem bback_wrong_in (w : World) (x : Ban) (hx : x.ok) (a : Adr) (ha : a.ok) (i j : Int) (h1 : -9223372036854775808 ≤ i ∧ i ≤ 9223372036854775807) (h2 : -9223372036854775808 ≤ j ∧ j ≤ 9223372036854775807) (hL : Lens w) (hr : rightB x = false) (hH : hitsB x a (max i j) = true) (hO : hitsB x a (min i j) = true) :
    Calls Tryd.prog 3 #[.agg #[.bool x.n.a.v6, .int .u64 x.n.a.hi, .int .u64 x.n.a.lo, .int .i64 x.n.n, .int .i64 x.t], .agg #[.bool a.v6, .int .u64 a.hi, .int .u64 a.lo], .agg #[.int .i64 i, .int .i64 j]] w fun e w' => e = .returned (.bool true) ∧ Below w.heap.size w w' := by
  have TL := textB_len hx
  have P1 := Lib.hid (parseB_any (textB x))
  unfold ParseBan at P1
  rw [textB_no hr, okB_nil, show parseB [] = zeroB from parseB_no okB_nil] at P1
  simp only [zeroB, zero] at P1
  have T1 : Hid (∀ W, S12b x a i j w W → Calls Tryd.prog 5 #[.agg #[.bool x.n.a.v6, .int .u64 x.n.a.hi, .int .u64 x.n.a.lo, .int .i64 x.n.n, .int .i64 x.t]] W fun e w' => e = .returned (.string ⟨(textB x).toArray⟩) ∧ S12b x a i j w w') := Lib.hid fun W h => by
    have hs := h.2.2.2.2.2.2.2.2.2.2
    have hc : Calls Tryd.prog 5 #[.agg #[.bool x.n.a.v6, .int .u64 x.n.a.hi, .int .u64 x.n.a.lo, .int .i64 x.n.n, .int .i64 x.t]] W fun e w' => e = .returned (.string ⟨(textB x).toArray⟩) ∧ Below W.heap.size W w' := textB_any x W hx
    exact hc.mono fun e w' ⟨he, hb⟩ => ⟨he, S12b.of (low_trans hs hb)⟩
  rw [textB_no hr] at T1
  have hk0 : S12b x a i j w (((w.alloc (.cells #[.bool x.n.a.v6, .int .u64 x.n.a.hi, .int .u64 x.n.a.lo, .int .i64 x.n.n, .int .i64 x.t] 28)).alloc (.cells #[.bool a.v6, .int .u64 a.hi, .int .u64 a.lo] 24)).alloc (.cells #[.int .i64 i, .int .i64 j] 29)) := S12b.of (Below.refl _ _)
  obtain ⟨c0, c1, c2, c3, c4, c5, c6, c7, c8, c9, hs⟩ := id hk0
  go_enter Tryd.func3, Tryd.ntmps3
  go_wp2_with fail
  (with_reducible refine (T1.out _ hk0).mono ?_)
  rintro e w1 ⟨rfl, hk1⟩
  clear c0 c1 c2 c3 c4 c5 c6 c7 c8 c9 hs
  go_wp2_with fail
  (with_reducible refine (P1.out _ (by first | omega | simp) (hL.below (S12b.low hk1))).mono ?_)
  rintro e w2 ⟨rfl, hb2⟩
  have hk2 : S12b x a i j w w2 := hk1.on hb2
  clear T1 P1 TL
  have hL3 := hL.below (S12b.low hk2)
  have hL4 := hL3.below ((Below.refl w2.heap.size w2).alloc (Nat.le_refl _) (.cells #[.bool false, .int .u64 0, .int .u64 0, .int .i64 0, .int .i64 0] 28))
  have K1 : Hid (∀ W, S12c x a i j zeroB w w2 W → Calls Tryd.prog 6 #[.agg #[.bool x.n.a.v6, .int .u64 x.n.a.hi, .int .u64 x.n.a.lo, .int .i64 x.n.n, .int .i64 x.t]] W fun e w' => e = .returned (.bool false) ∧ S12c x a i j zeroB w w2 w') := Lib.hid fun W h => by
    have hs : Stays (w2.alloc (.cells #[.bool false, .int .u64 0, .int .u64 0, .int .i64 0, .int .i64 0] 28)) W := h.2.2.2.2.2.2.2.2.2.2.2.2.2.2.2
    have hc : Calls Tryd.prog 6 #[.agg #[.bool x.n.a.v6, .int .u64 x.n.a.hi, .int .u64 x.n.a.lo, .int .i64 x.n.n, .int .i64 x.t]] W fun e w' => e = .returned (.bool false) ∧ Below W.heap.size W w' := by have k := rightB_any x W hx; rwa [hr] at k
    exact hc.mono fun e w' ⟨he, hb⟩ => ⟨he, S12c.of hk2 (low_trans hs hb)⟩
  have K9 : Hid (∀ W, S12c x a i j zeroB w w2 W → Calls Tryd.prog 9 #[] W fun e w' => e = .returned (.bool true) ∧ S12c x a i j zeroB w w2 w') := Lib.hid fun W h => by
    have hs : Stays (w2.alloc (.cells #[.bool false, .int .u64 0, .int .u64 0, .int .i64 0, .int .i64 0] 28)) W := h.2.2.2.2.2.2.2.2.2.2.2.2.2.2.2
    have hc : Calls Tryd.prog 9 #[] W fun e w' => e = .returned (.bool true) ∧ Below W.heap.size W w' := awake12_any W (hL4.below hs)
    exact hc.mono fun e w' ⟨he, hb⟩ => ⟨he, S12c.of hk2 (low_trans hs hb)⟩
  have hk3 : S12c x a i j zeroB w w2 (w2.alloc (.cells #[.bool false, .int .u64 0, .int .u64 0, .int .i64 0, .int .i64 0] 28)) := S12c.of hk2 (Below.refl _ _)
  obtain ⟨c0, c1, c2, c3, c4, c5, c6, c7, c8, c9, c10, c11, c12, c13, c14, hs3⟩ := id hk3
  go_wp2_with fail
  (with_reducible refine (K1.out _ hk3).mono ?_)
  rintro e w4 ⟨rfl, hk4⟩
  clear c0 c1 c2 c3 c4 c5 c6 c7 c8 c9 c10 c11 c12 c13 c14 hs3
  obtain ⟨c0, c1, c2, c3, c4, c5, c6, c7, c8, c9, c10, c11, c12, c13, c14, hs4⟩ := id hk4
  go_upto_region 4 with fail
  go_cut [9, 10] (fun s9 s10 wx => s9 = .int .i64 (min i j) ∧ s10 = .int .i64 (max i j) ∧ S12c x a i j zeroB w w2 wx)
  case first =>
    rcases Int.lt_trichotomy i j with hij | hij | hij
    all_goals
      go_region
      all_goals go_wp2_with fail
      all_goals go_meet
      all_goals exact ⟨by first | rfl | (congr 1; omega), by first | rfl | (congr 1; omega), S12c.of hk2 (low_drewN hk4.2.2.2.2.2.2.2.2.2.2.2.2.2.2.2 1)⟩
  case rest =>
    obtain ⟨rfl, rfl, hk5⟩ := hcut
    clear c0 c1 c2 c3 c4 c5 c6 c7 c8 c9 c10 c11 c12 c13 c14 hs4
    have HL := Lib.hid hH
    have HM := Lib.hid hO
    generalize hgL : min i j = lo at *
    generalize hgH : max i j = hi at *
    have K2 : Hid (∀ W, S12c x a i j zeroB w w2 W → Calls Tryd.prog 7 #[.agg #[.bool x.n.a.v6, .int .u64 x.n.a.hi, .int .u64 x.n.a.lo, .int .i64 x.n.n, .int .i64 x.t], .agg #[.bool a.v6, .int .u64 a.hi, .int .u64 a.lo], .int .i64 hi] W fun e w' => e = .returned (.bool true) ∧ S12c x a i j zeroB w w2 w') := Lib.hid fun W h => by
      have hs : Stays (w2.alloc (.cells #[.bool false, .int .u64 0, .int .u64 0, .int .i64 0, .int .i64 0] 28)) W := h.2.2.2.2.2.2.2.2.2.2.2.2.2.2.2
      have hc : Calls Tryd.prog 7 #[.agg #[.bool x.n.a.v6, .int .u64 x.n.a.hi, .int .u64 x.n.a.lo, .int .i64 x.n.n, .int .i64 x.t], .agg #[.bool a.v6, .int .u64 a.hi, .int .u64 a.lo], .int .i64 hi] W fun e w' => e = .returned (.bool true) ∧ Below W.heap.size W w' := by have k := hitsB_any x a hi W hx ha; rwa [HL.out] at k
      exact hc.mono fun e w' ⟨he, hb⟩ => ⟨he, S12c.of hk2 (low_trans hs hb)⟩
    have K3 : Hid (∀ W, S12c x a i j zeroB w w2 W → Calls Tryd.prog 7 #[.agg #[.bool x.n.a.v6, .int .u64 x.n.a.hi, .int .u64 x.n.a.lo, .int .i64 x.n.n, .int .i64 x.t], .agg #[.bool a.v6, .int .u64 a.hi, .int .u64 a.lo], .int .i64 lo] W fun e w' => e = .returned (.bool true) ∧ S12c x a i j zeroB w w2 w') := Lib.hid fun W h => by
      have hs : Stays (w2.alloc (.cells #[.bool false, .int .u64 0, .int .u64 0, .int .i64 0, .int .i64 0] 28)) W := h.2.2.2.2.2.2.2.2.2.2.2.2.2.2.2
      have hc : Calls Tryd.prog 7 #[.agg #[.bool x.n.a.v6, .int .u64 x.n.a.hi, .int .u64 x.n.a.lo, .int .i64 x.n.n, .int .i64 x.t], .agg #[.bool a.v6, .int .u64 a.hi, .int .u64 a.lo], .int .i64 lo] W fun e w' => e = .returned (.bool true) ∧ Below W.heap.size W w' := by have k := hitsB_any x a lo W hx ha; rwa [HM.out] at k
      exact hc.mono fun e w' ⟨he, hb⟩ => ⟨he, S12c.of hk2 (low_trans hs hb)⟩
    have K4 : Hid (∀ W, S12c x a i j zeroB w w2 W → Calls Tryd.prog 8 #[.agg #[.bool x.n.a.v6, .int .u64 x.n.a.hi, .int .u64 x.n.a.lo, .int .i64 x.n.n, .int .i64 x.t], .int .i64 lo] W fun e w' => e = .returned (.bool true) ∧ S12c x a i j zeroB w w2 w') := Lib.hid fun W h => by
      have hs : Stays (w2.alloc (.cells #[.bool false, .int .u64 0, .int .u64 0, .int .i64 0, .int .i64 0] 28)) W := h.2.2.2.2.2.2.2.2.2.2.2.2.2.2.2
      have hc : Calls Tryd.prog 8 #[.agg #[.bool x.n.a.v6, .int .u64 x.n.a.hi, .int .u64 x.n.a.lo, .int .i64 x.n.n, .int .i64 x.t], .int .i64 lo] W fun e w' => e = .returned (.bool true) ∧ Below W.heap.size W w' := by have k := livesB_any x lo W; rwa [show livesB x lo = true from by have := HM.out; unfold hitsB at this; rw [Bool.and_eq_true] at this; exact this.1] at k
      exact hc.mono fun e w' ⟨he, hb⟩ => ⟨he, S12c.of hk2 (low_trans hs hb)⟩
    obtain ⟨c0, c1, c2, c3, c4, c5, c6, c7, c8, c9, c10, c11, c12, c13, c14, hs5⟩ := id hk5
    go_wp2_with fail
    (with_reducible refine (K2.out _ hk5).mono ?_)
    rintro e w6 ⟨rfl, hk6⟩
    clear c0 c1 c2 c3 c4 c5 c6 c7 c8 c9 c10 c11 c12 c13 c14 hs5
    obtain ⟨c0, c1, c2, c3, c4, c5, c6, c7, c8, c9, c10, c11, c12, c13, c14, hs6⟩ := id hk6
    go_wp2_with fail
    (with_reducible refine (K3.out _ hk6).mono ?_)
    rintro e w7 ⟨rfl, hk7⟩
    clear c0 c1 c2 c3 c4 c5 c6 c7 c8 c9 c10 c11 c12 c13 c14 hs6
    obtain ⟨c0, c1, c2, c3, c4, c5, c6, c7, c8, c9, c10, c11, c12, c13, c14, hs7⟩ := id hk7
    go_wp2_with fail
    (with_reducible refine (K3.out _ hk7).mono ?_)
    rintro e w8 ⟨rfl, hk8⟩
    clear c0 c1 c2 c3 c4 c5 c6 c7 c8 c9 c10 c11 c12 c13 c14 hs7
    obtain ⟨c0, c1, c2, c3, c4, c5, c6, c7, c8, c9, c10, c11, c12, c13, c14, hs8⟩ := id hk8
    go_wp2_with fail
    (with_reducible refine (K4.out _ hk8).mono ?_)
    rintro e w9 ⟨rfl, hk9⟩
    clear c0 c1 c2 c3 c4 c5 c6 c7 c8 c9 c10 c11 c12 c13 c14 hs8
    obtain ⟨c0, c1, c2, c3, c4, c5, c6, c7, c8, c9, c10, c11, c12, c13, c14, hs9⟩ := id hk9
    go_wp2_with fail
    (with_reducible refine (K9.out _ hk9).mono ?_)
    rintro e w10 ⟨rfl, hk10⟩
    clear c0 c1 c2 c3 c4 c5 c6 c7 c8 c9 c10 c11 c12 c13 c14 hs9
    obtain ⟨c0, c1, c2, c3, c4, c5, c6, c7, c8, c9, c10, c11, c12, c13, c14, hs10⟩ := id hk10
    go_wp2_with fail
    go_ret
    exact ⟨rfl, (S12b.low hk2).trans (((Below.refl _ _).alloc (Nat.le_refl _) _).trans (hs10.mono (by simp)) |>.mono (S12b.low hk2).size)⟩
set_option maxHeartbeats 16000000 in
theorem bback_wrong_out (w : World) (x : Ban) (hx : x.ok) (a : Adr) (ha : a.ok) (i j : Int) (h1 : -9223372036854775808 ≤ i ∧ i ≤ 9223372036854775807) (h2 : -9223372036854775808 ≤ j ∧ j ≤ 9223372036854775807) (hL : Lens w) (hr : rightB x = false) (hH : hitsB x a (max i j) = false) (hO : hitsB x a (min i j) = false) :
    Calls Tryd.prog 3 #[.agg #[.bool x.n.a.v6, .int .u64 x.n.a.hi, .int .u64 x.n.a.lo, .int .i64 x.n.n, .int .i64 x.t], .agg #[.bool a.v6, .int .u64 a.hi, .int .u64 a.lo], .agg #[.int .i64 i, .int .i64 j]] w fun e w' => e = .returned (.bool true) ∧ Below w.heap.size w w' := by
  have TL := textB_len hx
  have P1 := Lib.hid (parseB_any (textB x))
  unfold ParseBan at P1
  rw [textB_no hr, okB_nil, show parseB [] = zeroB from parseB_no okB_nil] at P1
  simp only [zeroB, zero] at P1
  have T1 : Hid (∀ W, S12b x a i j w W → Calls Tryd.prog 5 #[.agg #[.bool x.n.a.v6, .int .u64 x.n.a.hi, .int .u64 x.n.a.lo, .int .i64 x.n.n, .int .i64 x.t]] W fun e w' => e = .returned (.string ⟨(textB x).toArray⟩) ∧ S12b x a i j w w') := Lib.hid fun W h => by
    have hs := h.2.2.2.2.2.2.2.2.2.2
    have hc : Calls Tryd.prog 5 #[.agg #[.bool x.n.a.v6, .int .u64 x.n.a.hi, .int .u64 x.n.a.lo, .int .i64 x.n.n, .int .i64 x.t]] W fun e w' => e = .returned (.string ⟨(textB x).toArray⟩) ∧ Below W.heap.size W w' := textB_any x W hx
    exact hc.mono fun e w' ⟨he, hb⟩ => ⟨he, S12b.of (low_trans hs hb)⟩
  rw [textB_no hr] at T1
  have hk0 : S12b x a i j w (((w.alloc (.cells #[.bool x.n.a.v6, .int .u64 x.n.a.hi, .int .u64 x.n.a.lo, .int .i64 x.n.n, .int .i64 x.t] 28)).alloc (.cells #[.bool a.v6, .int .u64 a.hi, .int .u64 a.lo] 24)).alloc (.cells #[.int .i64 i, .int .i64 j] 29)) := S12b.of (Below.refl _ _)
  obtain ⟨c0, c1, c2, c3, c4, c5, c6, c7, c8, c9, hs⟩ := id hk0
  go_enter Tryd.func3, Tryd.ntmps3
  go_wp2_with fail
  (with_reducible refine (T1.out _ hk0).mono ?_)
  rintro e w1 ⟨rfl, hk1⟩
  clear c0 c1 c2 c3 c4 c5 c6 c7 c8 c9 hs
  go_wp2_with fail
  (with_reducible refine (P1.out _ (by first | omega | simp) (hL.below (S12b.low hk1))).mono ?_)
  rintro e w2 ⟨rfl, hb2⟩
  have hk2 : S12b x a i j w w2 := hk1.on hb2
  clear T1 P1 TL
  have hL3 := hL.below (S12b.low hk2)
  have hL4 := hL3.below ((Below.refl w2.heap.size w2).alloc (Nat.le_refl _) (.cells #[.bool false, .int .u64 0, .int .u64 0, .int .i64 0, .int .i64 0] 28))
  have K1 : Hid (∀ W, S12c x a i j zeroB w w2 W → Calls Tryd.prog 6 #[.agg #[.bool x.n.a.v6, .int .u64 x.n.a.hi, .int .u64 x.n.a.lo, .int .i64 x.n.n, .int .i64 x.t]] W fun e w' => e = .returned (.bool false) ∧ S12c x a i j zeroB w w2 w') := Lib.hid fun W h => by
    have hs : Stays (w2.alloc (.cells #[.bool false, .int .u64 0, .int .u64 0, .int .i64 0, .int .i64 0] 28)) W := h.2.2.2.2.2.2.2.2.2.2.2.2.2.2.2
    have hc : Calls Tryd.prog 6 #[.agg #[.bool x.n.a.v6, .int .u64 x.n.a.hi, .int .u64 x.n.a.lo, .int .i64 x.n.n, .int .i64 x.t]] W fun e w' => e = .returned (.bool false) ∧ Below W.heap.size W w' := by have k := rightB_any x W hx; rwa [hr] at k
    exact hc.mono fun e w' ⟨he, hb⟩ => ⟨he, S12c.of hk2 (low_trans hs hb)⟩
  have K9 : Hid (∀ W, S12c x a i j zeroB w w2 W → Calls Tryd.prog 9 #[] W fun e w' => e = .returned (.bool true) ∧ S12c x a i j zeroB w w2 w') := Lib.hid fun W h => by
    have hs : Stays (w2.alloc (.cells #[.bool false, .int .u64 0, .int .u64 0, .int .i64 0, .int .i64 0] 28)) W := h.2.2.2.2.2.2.2.2.2.2.2.2.2.2.2
    have hc : Calls Tryd.prog 9 #[] W fun e w' => e = .returned (.bool true) ∧ Below W.heap.size W w' := awake12_any W (hL4.below hs)
    exact hc.mono fun e w' ⟨he, hb⟩ => ⟨he, S12c.of hk2 (low_trans hs hb)⟩
  have hk3 : S12c x a i j zeroB w w2 (w2.alloc (.cells #[.bool false, .int .u64 0, .int .u64 0, .int .i64 0, .int .i64 0] 28)) := S12c.of hk2 (Below.refl _ _)
  obtain ⟨c0, c1, c2, c3, c4, c5, c6, c7, c8, c9, c10, c11, c12, c13, c14, hs3⟩ := id hk3
  go_wp2_with fail
  (with_reducible refine (K1.out _ hk3).mono ?_)
  rintro e w4 ⟨rfl, hk4⟩
  clear c0 c1 c2 c3 c4 c5 c6 c7 c8 c9 c10 c11 c12 c13 c14 hs3
  obtain ⟨c0, c1, c2, c3, c4, c5, c6, c7, c8, c9, c10, c11, c12, c13, c14, hs4⟩ := id hk4
  go_upto_region 4 with fail
  go_cut [9, 10] (fun s9 s10 wx => s9 = .int .i64 (min i j) ∧ s10 = .int .i64 (max i j) ∧ S12c x a i j zeroB w w2 wx)
  case first =>
    rcases Int.lt_trichotomy i j with hij | hij | hij
    all_goals
      go_region
      all_goals go_wp2_with fail
      all_goals go_meet
      all_goals exact ⟨by first | rfl | (congr 1; omega), by first | rfl | (congr 1; omega), S12c.of hk2 (low_drewN hk4.2.2.2.2.2.2.2.2.2.2.2.2.2.2.2 1)⟩
  case rest =>
    obtain ⟨rfl, rfl, hk5⟩ := hcut
    clear c0 c1 c2 c3 c4 c5 c6 c7 c8 c9 c10 c11 c12 c13 c14 hs4
    have HL := Lib.hid hH
    have HM := Lib.hid hO
    generalize hgL : min i j = lo at *
    generalize hgH : max i j = hi at *
    have K2 : Hid (∀ W, S12c x a i j zeroB w w2 W → Calls Tryd.prog 7 #[.agg #[.bool x.n.a.v6, .int .u64 x.n.a.hi, .int .u64 x.n.a.lo, .int .i64 x.n.n, .int .i64 x.t], .agg #[.bool a.v6, .int .u64 a.hi, .int .u64 a.lo], .int .i64 hi] W fun e w' => e = .returned (.bool false) ∧ S12c x a i j zeroB w w2 w') := Lib.hid fun W h => by
      have hs : Stays (w2.alloc (.cells #[.bool false, .int .u64 0, .int .u64 0, .int .i64 0, .int .i64 0] 28)) W := h.2.2.2.2.2.2.2.2.2.2.2.2.2.2.2
      have hc : Calls Tryd.prog 7 #[.agg #[.bool x.n.a.v6, .int .u64 x.n.a.hi, .int .u64 x.n.a.lo, .int .i64 x.n.n, .int .i64 x.t], .agg #[.bool a.v6, .int .u64 a.hi, .int .u64 a.lo], .int .i64 hi] W fun e w' => e = .returned (.bool false) ∧ Below W.heap.size W w' := by have k := hitsB_any x a hi W hx ha; rwa [HL.out] at k
      exact hc.mono fun e w' ⟨he, hb⟩ => ⟨he, S12c.of hk2 (low_trans hs hb)⟩
    have K3 : Hid (∀ W, S12c x a i j zeroB w w2 W → Calls Tryd.prog 7 #[.agg #[.bool x.n.a.v6, .int .u64 x.n.a.hi, .int .u64 x.n.a.lo, .int .i64 x.n.n, .int .i64 x.t], .agg #[.bool a.v6, .int .u64 a.hi, .int .u64 a.lo], .int .i64 lo] W fun e w' => e = .returned (.bool false) ∧ S12c x a i j zeroB w w2 w') := Lib.hid fun W h => by
      have hs : Stays (w2.alloc (.cells #[.bool false, .int .u64 0, .int .u64 0, .int .i64 0, .int .i64 0] 28)) W := h.2.2.2.2.2.2.2.2.2.2.2.2.2.2.2
      have hc : Calls Tryd.prog 7 #[.agg #[.bool x.n.a.v6, .int .u64 x.n.a.hi, .int .u64 x.n.a.lo, .int .i64 x.n.n, .int .i64 x.t], .agg #[.bool a.v6, .int .u64 a.hi, .int .u64 a.lo], .int .i64 lo] W fun e w' => e = .returned (.bool false) ∧ Below W.heap.size W w' := by have k := hitsB_any x a lo W hx ha; rwa [HM.out] at k
      exact hc.mono fun e w' ⟨he, hb⟩ => ⟨he, S12c.of hk2 (low_trans hs hb)⟩
    obtain ⟨c0, c1, c2, c3, c4, c5, c6, c7, c8, c9, c10, c11, c12, c13, c14, hs5⟩ := id hk5
    go_wp2_with fail
    (with_reducible refine (K2.out _ hk5).mono ?_)
    rintro e w6 ⟨rfl, hk6⟩
    clear c0 c1 c2 c3 c4 c5 c6 c7 c8 c9 c10 c11 c12 c13 c14 hs5
    obtain ⟨c0, c1, c2, c3, c4, c5, c6, c7, c8, c9, c10, c11, c12, c13, c14, hs6⟩ := id hk6
    go_wp2_with fail
    (with_reducible refine (K3.out _ hk6).mono ?_)
    rintro e w7 ⟨rfl, hk7⟩
    clear c0 c1 c2 c3 c4 c5 c6 c7 c8 c9 c10 c11 c12 c13 c14 hs6
    obtain ⟨c0, c1, c2, c3, c4, c5, c6, c7, c8, c9, c10, c11, c12, c13, c14, hs7⟩ := id hk7
    go_wp2_with fail
    (with_reducible refine (K9.out _ hk7).mono ?_)
    rintro e w8 ⟨rfl, hk8⟩
    clear c0 c1 c2 c3 c4 c5 c6 c7 c8 c9 c10 c11 c12 c13 c14 hs7
    obtain ⟨c0, c1, c2, c3, c4, c5, c6, c7, c8, c9, c10, c11, c12, c13, c14, hs8⟩ := id hk8
    go_wp2_with fail
    go_ret
    exact ⟨rfl, (S12b.low hk2).trans (((Below.refl _ _).alloc (Nat.le_refl _) _).trans (hs8.mono (by simp)) |>.mono (S12b.low hk2).size)⟩
set_option maxHeartbeats 16000000 in
theorem bback_wrong_left (w : World) (x : Ban) (hx : x.ok) (a : Adr) (ha : a.ok) (i j : Int) (h1 : -9223372036854775808 ≤ i ∧ i ≤ 9223372036854775807) (h2 : -9223372036854775808 ≤ j ∧ j ≤ 9223372036854775807) (hL : Lens w) (hr : rightB x = false) (hH : hitsB x a (max i j) = false) (hO : hitsB x a (min i j) = true) :
    Calls Tryd.prog 3 #[.agg #[.bool x.n.a.v6, .int .u64 x.n.a.hi, .int .u64 x.n.a.lo, .int .i64 x.n.n, .int .i64 x.t], .agg #[.bool a.v6, .int .u64 a.hi, .int .u64 a.lo], .agg #[.int .i64 i, .int .i64 j]] w fun e w' => e = .returned (.bool true) ∧ Below w.heap.size w w' := by
  have TL := textB_len hx
  have P1 := Lib.hid (parseB_any (textB x))
  unfold ParseBan at P1
  rw [textB_no hr, okB_nil, show parseB [] = zeroB from parseB_no okB_nil] at P1
  simp only [zeroB, zero] at P1
  have T1 : Hid (∀ W, S12b x a i j w W → Calls Tryd.prog 5 #[.agg #[.bool x.n.a.v6, .int .u64 x.n.a.hi, .int .u64 x.n.a.lo, .int .i64 x.n.n, .int .i64 x.t]] W fun e w' => e = .returned (.string ⟨(textB x).toArray⟩) ∧ S12b x a i j w w') := Lib.hid fun W h => by
    have hs := h.2.2.2.2.2.2.2.2.2.2
    have hc : Calls Tryd.prog 5 #[.agg #[.bool x.n.a.v6, .int .u64 x.n.a.hi, .int .u64 x.n.a.lo, .int .i64 x.n.n, .int .i64 x.t]] W fun e w' => e = .returned (.string ⟨(textB x).toArray⟩) ∧ Below W.heap.size W w' := textB_any x W hx
    exact hc.mono fun e w' ⟨he, hb⟩ => ⟨he, S12b.of (low_trans hs hb)⟩
  rw [textB_no hr] at T1
  have hk0 : S12b x a i j w (((w.alloc (.cells #[.bool x.n.a.v6, .int .u64 x.n.a.hi, .int .u64 x.n.a.lo, .int .i64 x.n.n, .int .i64 x.t] 28)).alloc (.cells #[.bool a.v6, .int .u64 a.hi, .int .u64 a.lo] 24)).alloc (.cells #[.int .i64 i, .int .i64 j] 29)) := S12b.of (Below.refl _ _)
  obtain ⟨c0, c1, c2, c3, c4, c5, c6, c7, c8, c9, hs⟩ := id hk0
  go_enter Tryd.func3, Tryd.ntmps3
  go_wp2_with fail
  (with_reducible refine (T1.out _ hk0).mono ?_)
  rintro e w1 ⟨rfl, hk1⟩
  clear c0 c1 c2 c3 c4 c5 c6 c7 c8 c9 hs
  go_wp2_with fail
  (with_reducible refine (P1.out _ (by first | omega | simp) (hL.below (S12b.low hk1))).mono ?_)
  rintro e w2 ⟨rfl, hb2⟩
  have hk2 : S12b x a i j w w2 := hk1.on hb2
  clear T1 P1 TL
  have hL3 := hL.below (S12b.low hk2)
  have hL4 := hL3.below ((Below.refl w2.heap.size w2).alloc (Nat.le_refl _) (.cells #[.bool false, .int .u64 0, .int .u64 0, .int .i64 0, .int .i64 0] 28))
  have K1 : Hid (∀ W, S12c x a i j zeroB w w2 W → Calls Tryd.prog 6 #[.agg #[.bool x.n.a.v6, .int .u64 x.n.a.hi, .int .u64 x.n.a.lo, .int .i64 x.n.n, .int .i64 x.t]] W fun e w' => e = .returned (.bool false) ∧ S12c x a i j zeroB w w2 w') := Lib.hid fun W h => by
    have hs : Stays (w2.alloc (.cells #[.bool false, .int .u64 0, .int .u64 0, .int .i64 0, .int .i64 0] 28)) W := h.2.2.2.2.2.2.2.2.2.2.2.2.2.2.2
    have hc : Calls Tryd.prog 6 #[.agg #[.bool x.n.a.v6, .int .u64 x.n.a.hi, .int .u64 x.n.a.lo, .int .i64 x.n.n, .int .i64 x.t]] W fun e w' => e = .returned (.bool false) ∧ Below W.heap.size W w' := by have k := rightB_any x W hx; rwa [hr] at k
    exact hc.mono fun e w' ⟨he, hb⟩ => ⟨he, S12c.of hk2 (low_trans hs hb)⟩
  have K9 : Hid (∀ W, S12c x a i j zeroB w w2 W → Calls Tryd.prog 9 #[] W fun e w' => e = .returned (.bool true) ∧ S12c x a i j zeroB w w2 w') := Lib.hid fun W h => by
    have hs : Stays (w2.alloc (.cells #[.bool false, .int .u64 0, .int .u64 0, .int .i64 0, .int .i64 0] 28)) W := h.2.2.2.2.2.2.2.2.2.2.2.2.2.2.2
    have hc : Calls Tryd.prog 9 #[] W fun e w' => e = .returned (.bool true) ∧ Below W.heap.size W w' := awake12_any W (hL4.below hs)
    exact hc.mono fun e w' ⟨he, hb⟩ => ⟨he, S12c.of hk2 (low_trans hs hb)⟩
  have hk3 : S12c x a i j zeroB w w2 (w2.alloc (.cells #[.bool false, .int .u64 0, .int .u64 0, .int .i64 0, .int .i64 0] 28)) := S12c.of hk2 (Below.refl _ _)
  obtain ⟨c0, c1, c2, c3, c4, c5, c6, c7, c8, c9, c10, c11, c12, c13, c14, hs3⟩ := id hk3
  go_wp2_with fail
  (with_reducible refine (K1.out _ hk3).mono ?_)
  rintro e w4 ⟨rfl, hk4⟩
  clear c0 c1 c2 c3 c4 c5 c6 c7 c8 c9 c10 c11 c12 c13 c14 hs3
  obtain ⟨c0, c1, c2, c3, c4, c5, c6, c7, c8, c9, c10, c11, c12, c13, c14, hs4⟩ := id hk4
  go_upto_region 4 with fail
  go_cut [9, 10] (fun s9 s10 wx => s9 = .int .i64 (min i j) ∧ s10 = .int .i64 (max i j) ∧ S12c x a i j zeroB w w2 wx)
  case first =>
    rcases Int.lt_trichotomy i j with hij | hij | hij
    all_goals
      go_region
      all_goals go_wp2_with fail
      all_goals go_meet
      all_goals exact ⟨by first | rfl | (congr 1; omega), by first | rfl | (congr 1; omega), S12c.of hk2 (low_drewN hk4.2.2.2.2.2.2.2.2.2.2.2.2.2.2.2 1)⟩
  case rest =>
    obtain ⟨rfl, rfl, hk5⟩ := hcut
    clear c0 c1 c2 c3 c4 c5 c6 c7 c8 c9 c10 c11 c12 c13 c14 hs4
    have HL := Lib.hid hH
    have HM := Lib.hid hO
    generalize hgL : min i j = lo at *
    generalize hgH : max i j = hi at *
    have K2 : Hid (∀ W, S12c x a i j zeroB w w2 W → Calls Tryd.prog 7 #[.agg #[.bool x.n.a.v6, .int .u64 x.n.a.hi, .int .u64 x.n.a.lo, .int .i64 x.n.n, .int .i64 x.t], .agg #[.bool a.v6, .int .u64 a.hi, .int .u64 a.lo], .int .i64 hi] W fun e w' => e = .returned (.bool false) ∧ S12c x a i j zeroB w w2 w') := Lib.hid fun W h => by
      have hs : Stays (w2.alloc (.cells #[.bool false, .int .u64 0, .int .u64 0, .int .i64 0, .int .i64 0] 28)) W := h.2.2.2.2.2.2.2.2.2.2.2.2.2.2.2
      have hc : Calls Tryd.prog 7 #[.agg #[.bool x.n.a.v6, .int .u64 x.n.a.hi, .int .u64 x.n.a.lo, .int .i64 x.n.n, .int .i64 x.t], .agg #[.bool a.v6, .int .u64 a.hi, .int .u64 a.lo], .int .i64 hi] W fun e w' => e = .returned (.bool false) ∧ Below W.heap.size W w' := by have k := hitsB_any x a hi W hx ha; rwa [HL.out] at k
      exact hc.mono fun e w' ⟨he, hb⟩ => ⟨he, S12c.of hk2 (low_trans hs hb)⟩
    have K3 : Hid (∀ W, S12c x a i j zeroB w w2 W → Calls Tryd.prog 7 #[.agg #[.bool x.n.a.v6, .int .u64 x.n.a.hi, .int .u64 x.n.a.lo, .int .i64 x.n.n, .int .i64 x.t], .agg #[.bool a.v6, .int .u64 a.hi, .int .u64 a.lo], .int .i64 lo] W fun e w' => e = .returned (.bool true) ∧ S12c x a i j zeroB w w2 w') := Lib.hid fun W h => by
      have hs : Stays (w2.alloc (.cells #[.bool false, .int .u64 0, .int .u64 0, .int .i64 0, .int .i64 0] 28)) W := h.2.2.2.2.2.2.2.2.2.2.2.2.2.2.2
      have hc : Calls Tryd.prog 7 #[.agg #[.bool x.n.a.v6, .int .u64 x.n.a.hi, .int .u64 x.n.a.lo, .int .i64 x.n.n, .int .i64 x.t], .agg #[.bool a.v6, .int .u64 a.hi, .int .u64 a.lo], .int .i64 lo] W fun e w' => e = .returned (.bool true) ∧ Below W.heap.size W w' := by have k := hitsB_any x a lo W hx ha; rwa [HM.out] at k
      exact hc.mono fun e w' ⟨he, hb⟩ => ⟨he, S12c.of hk2 (low_trans hs hb)⟩
    have K4 : Hid (∀ W, S12c x a i j zeroB w w2 W → Calls Tryd.prog 8 #[.agg #[.bool x.n.a.v6, .int .u64 x.n.a.hi, .int .u64 x.n.a.lo, .int .i64 x.n.n, .int .i64 x.t], .int .i64 lo] W fun e w' => e = .returned (.bool true) ∧ S12c x a i j zeroB w w2 w') := Lib.hid fun W h => by
      have hs : Stays (w2.alloc (.cells #[.bool false, .int .u64 0, .int .u64 0, .int .i64 0, .int .i64 0] 28)) W := h.2.2.2.2.2.2.2.2.2.2.2.2.2.2.2
      have hc : Calls Tryd.prog 8 #[.agg #[.bool x.n.a.v6, .int .u64 x.n.a.hi, .int .u64 x.n.a.lo, .int .i64 x.n.n, .int .i64 x.t], .int .i64 lo] W fun e w' => e = .returned (.bool true) ∧ Below W.heap.size W w' := by have k := livesB_any x lo W; rwa [show livesB x lo = true from by have := HM.out; unfold hitsB at this; rw [Bool.and_eq_true] at this; exact this.1] at k
      exact hc.mono fun e w' ⟨he, hb⟩ => ⟨he, S12c.of hk2 (low_trans hs hb)⟩
    obtain ⟨c0, c1, c2, c3, c4, c5, c6, c7, c8, c9, c10, c11, c12, c13, c14, hs5⟩ := id hk5
    go_wp2_with fail
    (with_reducible refine (K2.out _ hk5).mono ?_)
    rintro e w6 ⟨rfl, hk6⟩
    clear c0 c1 c2 c3 c4 c5 c6 c7 c8 c9 c10 c11 c12 c13 c14 hs5
    obtain ⟨c0, c1, c2, c3, c4, c5, c6, c7, c8, c9, c10, c11, c12, c13, c14, hs6⟩ := id hk6
    go_wp2_with fail
    (with_reducible refine (K3.out _ hk6).mono ?_)
    rintro e w7 ⟨rfl, hk7⟩
    clear c0 c1 c2 c3 c4 c5 c6 c7 c8 c9 c10 c11 c12 c13 c14 hs6
    obtain ⟨c0, c1, c2, c3, c4, c5, c6, c7, c8, c9, c10, c11, c12, c13, c14, hs7⟩ := id hk7
    go_wp2_with fail
    (with_reducible refine (K4.out _ hk7).mono ?_)
    rintro e w8 ⟨rfl, hk8⟩
    clear c0 c1 c2 c3 c4 c5 c6 c7 c8 c9 c10 c11 c12 c13 c14 hs7
    obtain ⟨c0, c1, c2, c3, c4, c5, c6, c7, c8, c9, c10, c11, c12, c13, c14, hs8⟩ := id hk8
    go_wp2_with fail
    (with_reducible refine (K9.out _ hk8).mono ?_)
    rintro e w9 ⟨rfl, hk9⟩
    clear c0 c1 c2 c3 c4 c5 c6 c7 c8 c9 c10 c11 c12 c13 c14 hs8
    obtain ⟨c0, c1, c2, c3, c4, c5, c6, c7, c8, c9, c10, c11, c12, c13, c14, hs9⟩ := id hk9
    go_wp2_with fail
    go_ret
    exact ⟨rfl, (S12b.low hk2).trans (((Below.refl _ _).alloc (Nat.le_refl _) _).trans (hs9.mono (by simp)) |>.mono (S12b.low hk2).size)⟩
theorem banBack_walk (w : World) (x : Ban) (hx : x.ok) (a : Adr) (ha : a.ok) (i j : Int) (h1 : -9223372036854775808 ≤ i ∧ i ≤ 9223372036854775807) (h2 : -9223372036854775808 ≤ j ∧ j ≤ 9223372036854775807) (hL : Lens w) :
    Calls Tryd.prog 3 #[.agg #[.bool x.n.a.v6, .int .u64 x.n.a.hi, .int .u64 x.n.a.lo, .int .i64 x.n.n, .int .i64 x.t], .agg #[.bool a.v6, .int .u64 a.hi, .int .u64 a.lo], .agg #[.int .i64 i, .int .i64 j]] w fun e w' => e = .returned (.bool true) ∧ Below w.heap.size w w' := by
  have hA : hitsB x a (max i j) = true → hitsB x a (min i j) = true := hits_ahead (by omega)
  cases hr : rightB x <;> cases hH : hitsB x a (max i j) <;> cases hO : hitsB x a (min i j)
  · exact bback_wrong_out w x hx a ha i j h1 h2 hL hr hH hO
  · exact bback_wrong_left w x hx a ha i j h1 h2 hL hr hH hO
  · rw [hA hH] at hO; cases hO
  · exact bback_wrong_in w x hx a ha i j h1 h2 hL hr hH hO
  · exact bback_right_out w x hx a ha i j h1 h2 hL hr hH hO
  · exact bback_right_left w x hx a ha i j h1 h2 hL hr hH hO
  · rw [hA hH] at hO; cases hO
  · exact bback_right_in w x hx a ha i j h1 h2 hL hr hH hO
namespace banBack
theorem contract (H : Type) (enc : TypeId × Value → H) (W : World) (base : Nat) (args : Array Value) (ds gs : List (DataW H)) (before : List MemPlace)
    (hval0 : ∀ (j : Nat) t v, Tryd.f3.params[j]? = some t → args[j]? = some v → Value.okWide Tryd.prog W .any base t v)
    (hW : DataW.Whole enc Tryd.prog Tryd.f3.params.toList Rows.banBackSpec.vars false W args.toList ds gs before) (hSh : W.ShapedOpen Tryd.prog) :
    Calls Tryd.prog 3 args W fun e W' => ∃ v, e = .returned v ∧ Rows.banBackSpec.post enc Tryd.prog Tryd.f3 false true false false W args v W' := by
  have hval : ∀ (j : Nat) t v, Tryd.f3.params[j]? = some t → args[j]? = some v → Value.okWide Tryd.prog W .any base t v := hval0
  have hW' := hW
  obtain ⟨p, q, hA0, hV, _, _, _⟩ := hW
  have hA : DataW.TrodAll enc Tryd.prog W 0 (fun _ => true) true Tryd.f3.params.toList args.toList ds p := hA0
  rw [Tryd.params3] at hA hval
  obtain ⟨v0, vs0, d0, ds0, p0, q0, hargs, rfl, rfl, h0, r0⟩ := trodAll_cons hA
  obtain ⟨v1, vs1, d1, ds1, p1, q1, rfl, rfl, rfl, h1, r1⟩ := trodAll_cons r0
  obtain ⟨v2, vs2, d2, ds2, p2, q2, rfl, rfl, rfl, h2, r2⟩ := trodAll_cons r1
  obtain ⟨rfl, rfl, rfl⟩ := trodAll_nil r2
  obtain rfl : args = #[v0, v1, v2] := by cases args; simp_all
  obtain ⟨rfl, rfl⟩ := trodVars_none hV
  obtain ⟨a0, z0, rfl⟩ := open_ban (hval 0 28 v0 rfl rfl) h0
  obtain ⟨a1, z1, rfl, rfl, rfl⟩ := open_adr (tb := 4) (ti := 22) Tryd.underlying24 (by kernel_rfl) (by kernel_rfl) rfl rfl rfl Tryd.underlying4 Tryd.underlying22 (hval 1 24 v1 rfl rfl) h1
  obtain ⟨i2, j2, y2, z2, rfl⟩ := open_two (hval 2 29 v2 rfl rfl) h2
  clear hA0 hval0
  refine (banBack_walk W a0 z0 a1 z1 i2 j2 y2 z2 (V6.Lens.start hSh)).mono fun e W' ⟨he, hg⟩ => ?_
  subst he
  exact ⟨_, rfl, post_law laidOut (by kernel_rfl) (by kernel_rfl) Tryd.underlying4 rfl hW' rfl rfl rfl hg⟩
set_option maxRecDepth 100000 in
theorem lifted (os : Os) (started : os.Started) (H : Type) (enc : TypeId × Value → H) (F : Stop.Interp) :
    ReturnsInHanded {} Tryd.checked os 3 .any ((OpenSpec.ofChange Rows.banBackSpec).preRow enc Tryd.prog Tryd.f3 Rows.banBackRow.domain false Rows.banBackRow.laid) (((OpenSpec.ofChange Rows.banBackSpec).at F).post enc Tryd.prog Tryd.f3 false true false false) := by
  refine returnsInHanded_of_row (C := Tryd.checked) (s := OpenSpec.ofChange Rows.banBackSpec) own started (by kernel_rfl) Tryd.func3
    (witness_laid (enc := enc) (C := Tryd.checked) (s := OpenSpec.ofChange Rows.banBackSpec) (laid := Rows.banBackRow.laid) #[.agg #[.bool false, .int .u64 0, .int .u64 0, .int .i64 0, .int .i64 0], .agg #[.bool false, .int .u64 0, .int .u64 0], .agg #[.int .i64 0, .int .i64 0]] (World.shaped_of_ZipB (by kernel_rfl) (by kernel_rfl)) (by kernel_rfl)
      (OpenSpec.preRow_of_cond 8 (x := ([.agg [.agg [.agg [.lit (.bool false), .lit (.int .u64 0), .lit (.int .u64 0)], .lit (.int .i64 0)], .lit (.int .i64 0)], .agg [.lit (.bool false), .lit (.int .u64 0), .lit (.int .u64 0)], .agg [.lit (.int .i64 0), .lit (.int .i64 0)]], [], [])) (by kernel_rfl) (by kernel_rfl) (fun k hk => by cases hk) (by kernel_rfl)
        (by rw [MakeChecks.laidMetH_plain _ _ _ (by kernel_rfl)]; exact laidMet_laidAll _ (by kernel_rfl) (by kernel_rfl)))) ?_
  intro W base args ds gs before hval hW _ hcond _ _ hsh _
  exact contract H enc W base args ds gs before hval hW hsh
theorem over : Rows.banBackRow.holds Tryd.pinned (OpenSpec.ofChange Rows.banBackSpec) :=
  OpenClaim.holds_of_cond 3 Tryd.f3 rfl rfl rfl rfl rfl rfl rfl ⟨rfl, rfl, rfl, rfl, rfl⟩ rfl rfl rfl rfl rfl (by kernel_rfl) Tryd.func3 (by kernel_rfl)
    (of_decide_eq_true (by kernel_rfl)) (by unfold Func.isWrapper; first | (rw [if_pos (by decide +kernel)]; kernel_rfl) | (rw [if_neg (by decide +kernel)]; exact ⟨rfl, rfl⟩))
    (fun os started H enc _ F => by rw [OpenClaim.pre_eq_preRow]; exact lifted os started H enc F)
/-- ████ THE STATEMENT ████ -/
theorem proved : Rows.BanBackCardSaid :=
  Claim7.holds_tied_plain_at .later [] Rows.banBackCard.laidKinds Rows.banBackCard.laidTests Rows.banBackCard.stood.harness Rows.banBackCard.stood.looks over (fun _ h => by cases h) (by kernel_rfl) (fun _ h => by cases h) banBack_row_tie rfl ⟨rfl, rfl⟩ (by kernel_rfl) rfl
    (fun f fn hf hfn => by
      obtain rfl : f = 3 := Option.some.inj ((show Tryd.prog.funcNamed Rows.banBackRow.func = some 3 by kernel_rfl).symm.trans hf) |>.symm
      obtain rfl : fn = Tryd.f3 := (Option.some.inj (Tryd.func3.symm.trans hfn)).symm
      exact ⟨by kernel_rfl, no_standin (by kernel_rfl)⟩)
    (by kernel_rfl)
end banBack
end Go.Proofs.YtpbgmgjnclhpmaaDoor
