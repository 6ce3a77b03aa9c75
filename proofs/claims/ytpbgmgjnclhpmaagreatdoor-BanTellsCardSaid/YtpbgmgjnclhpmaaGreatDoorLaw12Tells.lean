/- The first statement of layer 12, proved: a ban's line, of whom it holds when, what becomes of it and another one, and which ban any line is, as the document says; for all bans and texts, under the row's listed variables. -/
import Derived.Test.YtpbgmgjnclhpmaaGreatDoorLaw12
import Derived.Deep.DeepCutAuto
namespace Go.Proofs.YtpbgmgjnclhpmaaGreatDoor
set_option maxRecDepth 100000
open Go.ChangeShapes Go.WideShapes Go.ChangeAt Go.RowKit
open Dec Words V4 V6 Ad Ci Ba
set_option linter.unusedVariables false
abbrev S12x (x y : Ban) (l : List UInt8) (w w1 w2 w5 : World) (w' : World) : Prop := w'.cell? ⟨w.heap.size, 0, none⟩ = some (.bool x.n.a.v6) ∧ w'.cell? ⟨w.heap.size, 1, none⟩ = some (.int .u64 x.n.a.hi) ∧ w'.cell? ⟨w.heap.size, 2, none⟩ = some (.int .u64 x.n.a.lo) ∧ w'.cell? ⟨w.heap.size, 3, none⟩ = some (.int .i64 x.n.n) ∧ w'.cell? ⟨w.heap.size, 4, none⟩ = some (.int .i64 x.t) ∧ w'.cell? ⟨w.heap.size + 1, 0, none⟩ = some (.bool y.n.a.v6) ∧ w'.cell? ⟨w.heap.size + 1, 1, none⟩ = some (.int .u64 y.n.a.hi) ∧ w'.cell? ⟨w.heap.size + 1, 2, none⟩ = some (.int .u64 y.n.a.lo) ∧ w'.cell? ⟨w.heap.size + 1, 3, none⟩ = some (.int .i64 y.n.n) ∧ w'.cell? ⟨w.heap.size + 1, 4, none⟩ = some (.int .i64 y.t) ∧ w'.cell? ⟨w1.heap.size, 0, none⟩ = some (.bool (parseB l).n.a.v6) ∧ w'.cell? ⟨w1.heap.size, 1, none⟩ = some (.int .u64 (parseB l).n.a.hi) ∧ w'.cell? ⟨w1.heap.size, 2, none⟩ = some (.int .u64 (parseB l).n.a.lo) ∧ w'.cell? ⟨w1.heap.size, 3, none⟩ = some (.int .i64 (parseB l).n.n) ∧ w'.cell? ⟨w1.heap.size, 4, none⟩ = some (.int .i64 (parseB l).t) ∧ w'.cell? ⟨w2.heap.size, 0, none⟩ = some (.bool (parseB l).n.a.v6) ∧ w'.cell? ⟨w2.heap.size, 1, none⟩ = some (.int .u64 (parseB l).n.a.hi) ∧ w'.cell? ⟨w2.heap.size, 2, none⟩ = some (.int .u64 (parseB l).n.a.lo) ∧ w'.cell? ⟨w2.heap.size, 3, none⟩ = some (.int .i64 (parseB l).n.n) ∧ w'.cell? ⟨w2.heap.size, 4, none⟩ = some (.int .i64 (parseB l).t) ∧ w'.cell? ⟨w2.heap.size + 1, 0, none⟩ = some (.bool x.n.a.v6) ∧ w'.cell? ⟨w2.heap.size + 1, 1, none⟩ = some (.int .u64 x.n.a.hi) ∧ w'.cell? ⟨w2.heap.size + 1, 2, none⟩ = some (.int .u64 x.n.a.lo) ∧ w'.cell? ⟨w2.heap.size + 1, 3, none⟩ = some (.int .i64 x.n.n) ∧ w'.cell? ⟨w2.heap.size + 1, 4, none⟩ = some (.int .i64 x.t) ∧ Stays (w5) w'
abbrev S12y (x y : Ban) (l : List UInt8) (w w1 w2 w5 : World) (w' : World) : Prop := w'.cell? ⟨w.heap.size, 0, none⟩ = some (.bool x.n.a.v6) ∧ w'.cell? ⟨w.heap.size, 1, none⟩ = some (.int .u64 x.n.a.hi) ∧ w'.cell? ⟨w.heap.size, 2, none⟩ = some (.int .u64 x.n.a.lo) ∧ w'.cell? ⟨w.heap.size, 3, none⟩ = some (.int .i64 x.n.n) ∧ w'.cell? ⟨w.heap.size, 4, none⟩ = some (.int .i64 x.t) ∧ w'.cell? ⟨w.heap.size + 1, 0, none⟩ = some (.bool y.n.a.v6) ∧ w'.cell? ⟨w.heap.size + 1, 1, none⟩ = some (.int .u64 y.n.a.hi) ∧ w'.cell? ⟨w.heap.size + 1, 2, none⟩ = some (.int .u64 y.n.a.lo) ∧ w'.cell? ⟨w.heap.size + 1, 3, none⟩ = some (.int .i64 y.n.n) ∧ w'.cell? ⟨w.heap.size + 1, 4, none⟩ = some (.int .i64 y.t) ∧ w'.cell? ⟨w1.heap.size, 0, none⟩ = some (.bool (parseB l).n.a.v6) ∧ w'.cell? ⟨w1.heap.size, 1, none⟩ = some (.int .u64 (parseB l).n.a.hi) ∧ w'.cell? ⟨w1.heap.size, 2, none⟩ = some (.int .u64 (parseB l).n.a.lo) ∧ w'.cell? ⟨w1.heap.size, 3, none⟩ = some (.int .i64 (parseB l).n.n) ∧ w'.cell? ⟨w1.heap.size, 4, none⟩ = some (.int .i64 (parseB l).t) ∧ w'.cell? ⟨w2.heap.size, 0, none⟩ = some (.bool (parseB l).n.a.v6) ∧ w'.cell? ⟨w2.heap.size, 1, none⟩ = some (.int .u64 (parseB l).n.a.hi) ∧ w'.cell? ⟨w2.heap.size, 2, none⟩ = some (.int .u64 (parseB l).n.a.lo) ∧ w'.cell? ⟨w2.heap.size, 3, none⟩ = some (.int .i64 (parseB l).n.n) ∧ w'.cell? ⟨w2.heap.size, 4, none⟩ = some (.int .i64 (parseB l).t) ∧ w'.cell? ⟨w2.heap.size + 1, 0, none⟩ = some (.bool y.n.a.v6) ∧ w'.cell? ⟨w2.heap.size + 1, 1, none⟩ = some (.int .u64 y.n.a.hi) ∧ w'.cell? ⟨w2.heap.size + 1, 2, none⟩ = some (.int .u64 y.n.a.lo) ∧ w'.cell? ⟨w2.heap.size + 1, 3, none⟩ = some (.int .i64 y.n.n) ∧ w'.cell? ⟨w2.heap.size + 1, 4, none⟩ = some (.int .i64 y.t) ∧ Stays (w5) w'
set_option maxHeartbeats 32000000 in
theorem btells_other (w : World) (x : Ban) (hx : x.ok) (y : Ban) (hy : y.ok) (l : List UInt8) (hl : l.length ≤ 1000) (hL : Lens w) (hq : sameN x.n y.n = false) :
    Calls Tryz.prog 3 #[.agg #[.bool x.n.a.v6, .int .u64 x.n.a.hi, .int .u64 x.n.a.lo, .int .i64 x.n.n, .int .i64 x.t], .agg #[.bool y.n.a.v6, .int .u64 y.n.a.hi, .int .u64 y.n.a.lo, .int .i64 y.n.n, .int .i64 y.t], .string ⟨l.toArray⟩] w fun e w' => e = .returned (.bool true) ∧ Below w.heap.size w w' := by
  have hB2 : Below w.heap.size w ((w.alloc (.cells #[.bool x.n.a.v6, .int .u64 x.n.a.hi, .int .u64 x.n.a.lo, .int .i64 x.n.n, .int .i64 x.t] 28)).alloc (.cells #[.bool y.n.a.v6, .int .u64 y.n.a.hi, .int .u64 y.n.a.lo, .int .i64 y.n.n, .int .i64 y.t] 28)) := ((Below.refl _ _).alloc (Nat.le_refl _) _).alloc (by simp) _
  have hL0 := hL.below hB2
  have EN : ∀ W, (binOp .eql 26 (.agg #[.bool x.n.a.v6, .int .u64 x.n.a.hi, .int .u64 x.n.a.lo, .int .i64 x.n.n]) (.agg #[.bool y.n.a.v6, .int .u64 y.n.a.hi, .int .u64 y.n.a.lo, .int .i64 y.n.n])).run Tryz.prog W = .ok (.bool false) W := fun W => by rw [eqNet, hq]
  have EJ : ∀ W, (binOp .eql 28 (.agg #[.bool x.n.a.v6, .int .u64 x.n.a.hi, .int .u64 x.n.a.lo, .int .i64 x.n.n, .int .i64 x.t]) (.agg #[.bool x.n.a.v6, .int .u64 x.n.a.hi, .int .u64 x.n.a.lo, .int .i64 x.n.n, .int .i64 x.t])).run Tryz.prog W = .ok (.bool true) W := fun W => by rw [eqBan, sameB_self]
  have EP : ∀ W, (binOp .eql 28 (.agg #[.bool (parseB l).n.a.v6, .int .u64 (parseB l).n.a.hi, .int .u64 (parseB l).n.a.lo, .int .i64 (parseB l).n.n, .int .i64 (parseB l).t]) (.agg #[.bool (parseB l).n.a.v6, .int .u64 (parseB l).n.a.hi, .int .u64 (parseB l).n.a.lo, .int .i64 (parseB l).n.n, .int .i64 (parseB l).t])).run Tryz.prog W = .ok (.bool true) W := fun W => by rw [eqBan, sameB_self]
  have HJ : Hid (joinB x y = x) := Lib.hid (by unfold joinB; rw [hq]; rfl)
  clear hq
  obtain ⟨cl, hcl⟩ : ∃ cl, decide (y.t < x.t) = cl := ⟨_, rfl⟩
  go_enter Tryz.func3, Tryz.ntmps3
  go_wp2_with fail
  refine (parseB_any l _ (by omega) hL0).mono ?_
  rintro e w1 ⟨rfl, hb1⟩
  have hL1 := hL0.below hb1
  go_wp2_with fail
  refine (rparseB_any l _ (by omega)).mono ?_
  rintro e w2 ⟨rfl, hb2⟩
  have hs1 : Stays (w1.alloc (.cells #[.bool (parseB l).n.a.v6, .int .u64 (parseB l).n.a.hi, .int .u64 (parseB l).n.a.lo, .int .i64 (parseB l).n.n, .int .i64 (parseB l).t] 28)) w2 := hb2
  have hs0 : Stays ((w.alloc (.cells #[.bool x.n.a.v6, .int .u64 x.n.a.hi, .int .u64 x.n.a.lo, .int .i64 x.n.n, .int .i64 x.t] 28)).alloc (.cells #[.bool y.n.a.v6, .int .u64 y.n.a.hi, .int .u64 y.n.a.lo, .int .i64 y.n.n, .int .i64 y.t] 28)) w2 := low_trans hb1 (low_trans ((Below.refl _ _).alloc (Nat.le_refl _) _) hs1)
  have z1 : w.heap.size + 2 ≤ w1.heap.size := by have := hb1.size; simpa using this
  have z2 : w1.heap.size + 1 ≤ w2.heap.size := by have := hb2.size; simpa using this
  have u0 : w2.cell? ⟨w.heap.size, 0, none⟩ = some (.bool x.n.a.v6) := Ci.cells_left hs0 (Ci.cells_left ((Below.refl _ _).alloc (Nat.le_refl _) _) (cell_at _ _ _ 0 _ rfl))
  have u1 : w2.cell? ⟨w.heap.size, 1, none⟩ = some (.int .u64 x.n.a.hi) := Ci.cells_left hs0 (Ci.cells_left ((Below.refl _ _).alloc (Nat.le_refl _) _) (cell_at _ _ _ 1 _ rfl))
  have u2 : w2.cell? ⟨w.heap.size, 2, none⟩ = some (.int .u64 x.n.a.lo) := Ci.cells_left hs0 (Ci.cells_left ((Below.refl _ _).alloc (Nat.le_refl _) _) (cell_at _ _ _ 2 _ rfl))
  have u3 : w2.cell? ⟨w.heap.size, 3, none⟩ = some (.int .i64 x.n.n) := Ci.cells_left hs0 (Ci.cells_left ((Below.refl _ _).alloc (Nat.le_refl _) _) (cell_at _ _ _ 3 _ rfl))
  have u4 : w2.cell? ⟨w.heap.size, 4, none⟩ = some (.int .i64 x.t) := Ci.cells_left hs0 (Ci.cells_left ((Below.refl _ _).alloc (Nat.le_refl _) _) (cell_at _ _ _ 4 _ rfl))
  have v0 : w2.cell? ⟨w.heap.size + 1, 0, none⟩ = some (.bool y.n.a.v6) := Ci.cells_left hs0 (by have k := cell_at (w.alloc (.cells #[.bool x.n.a.v6, .int .u64 x.n.a.hi, .int .u64 x.n.a.lo, .int .i64 x.n.n, .int .i64 x.t] 28)) #[.bool y.n.a.v6, .int .u64 y.n.a.hi, .int .u64 y.n.a.lo, .int .i64 y.n.n, .int .i64 y.t] 28 0 _ rfl; rwa [show (w.alloc (.cells #[.bool x.n.a.v6, .int .u64 x.n.a.hi, .int .u64 x.n.a.lo, .int .i64 x.n.n, .int .i64 x.t] 28)).heap.size = w.heap.size + 1 by simp] at k)
  have v1 : w2.cell? ⟨w.heap.size + 1, 1, none⟩ = some (.int .u64 y.n.a.hi) := Ci.cells_left hs0 (by have k := cell_at (w.alloc (.cells #[.bool x.n.a.v6, .int .u64 x.n.a.hi, .int .u64 x.n.a.lo, .int .i64 x.n.n, .int .i64 x.t] 28)) #[.bool y.n.a.v6, .int .u64 y.n.a.hi, .int .u64 y.n.a.lo, .int .i64 y.n.n, .int .i64 y.t] 28 1 _ rfl; rwa [show (w.alloc (.cells #[.bool x.n.a.v6, .int .u64 x.n.a.hi, .int .u64 x.n.a.lo, .int .i64 x.n.n, .int .i64 x.t] 28)).heap.size = w.heap.size + 1 by simp] at k)
  have v2 : w2.cell? ⟨w.heap.size + 1, 2, none⟩ = some (.int .u64 y.n.a.lo) := Ci.cells_left hs0 (by have k := cell_at (w.alloc (.cells #[.bool x.n.a.v6, .int .u64 x.n.a.hi, .int .u64 x.n.a.lo, .int .i64 x.n.n, .int .i64 x.t] 28)) #[.bool y.n.a.v6, .int .u64 y.n.a.hi, .int .u64 y.n.a.lo, .int .i64 y.n.n, .int .i64 y.t] 28 2 _ rfl; rwa [show (w.alloc (.cells #[.bool x.n.a.v6, .int .u64 x.n.a.hi, .int .u64 x.n.a.lo, .int .i64 x.n.n, .int .i64 x.t] 28)).heap.size = w.heap.size + 1 by simp] at k)
  have v3 : w2.cell? ⟨w.heap.size + 1, 3, none⟩ = some (.int .i64 y.n.n) := Ci.cells_left hs0 (by have k := cell_at (w.alloc (.cells #[.bool x.n.a.v6, .int .u64 x.n.a.hi, .int .u64 x.n.a.lo, .int .i64 x.n.n, .int .i64 x.t] 28)) #[.bool y.n.a.v6, .int .u64 y.n.a.hi, .int .u64 y.n.a.lo, .int .i64 y.n.n, .int .i64 y.t] 28 3 _ rfl; rwa [show (w.alloc (.cells #[.bool x.n.a.v6, .int .u64 x.n.a.hi, .int .u64 x.n.a.lo, .int .i64 x.n.n, .int .i64 x.t] 28)).heap.size = w.heap.size + 1 by simp] at k)
  have v4 : w2.cell? ⟨w.heap.size + 1, 4, none⟩ = some (.int .i64 y.t) := Ci.cells_left hs0 (by have k := cell_at (w.alloc (.cells #[.bool x.n.a.v6, .int .u64 x.n.a.hi, .int .u64 x.n.a.lo, .int .i64 x.n.n, .int .i64 x.t] 28)) #[.bool y.n.a.v6, .int .u64 y.n.a.hi, .int .u64 y.n.a.lo, .int .i64 y.n.n, .int .i64 y.t] 28 4 _ rfl; rwa [show (w.alloc (.cells #[.bool x.n.a.v6, .int .u64 x.n.a.hi, .int .u64 x.n.a.lo, .int .i64 x.n.n, .int .i64 x.t] 28)).heap.size = w.heap.size + 1 by simp] at k)
  have p0 : w2.cell? ⟨w1.heap.size, 0, none⟩ = some (.bool (parseB l).n.a.v6) := Ci.cells_left hs1 (cell_at _ _ _ 0 _ rfl)
  have p1 : w2.cell? ⟨w1.heap.size, 1, none⟩ = some (.int .u64 (parseB l).n.a.hi) := Ci.cells_left hs1 (cell_at _ _ _ 1 _ rfl)
  have p2 : w2.cell? ⟨w1.heap.size, 2, none⟩ = some (.int .u64 (parseB l).n.a.lo) := Ci.cells_left hs1 (cell_at _ _ _ 2 _ rfl)
  have p3 : w2.cell? ⟨w1.heap.size, 3, none⟩ = some (.int .i64 (parseB l).n.n) := Ci.cells_left hs1 (cell_at _ _ _ 3 _ rfl)
  have p4 : w2.cell? ⟨w1.heap.size, 4, none⟩ = some (.int .i64 (parseB l).t) := Ci.cells_left hs1 (cell_at _ _ _ 4 _ rfl)
  have hLow2 : Below w.heap.size w w2 := hB2.trans (hs0.mono (by simp; omega))
  have y0 : w.heap.size < w2.heap.size := by omega
  have y1 : w.heap.size + 1 < w2.heap.size := by omega
  have y2 : w1.heap.size < w2.heap.size := by omega
  go_upto_region 8 with fail
  refine Ci.swap (P := fun wc => Code.wp _ _ _ _ wc) (R := fun wx => wx.cell? ⟨w.heap.size, 0, none⟩ = some (.bool x.n.a.v6) ∧ wx.cell? ⟨w.heap.size, 1, none⟩ = some (.int .u64 x.n.a.hi) ∧ wx.cell? ⟨w.heap.size, 2, none⟩ = some (.int .u64 x.n.a.lo) ∧ wx.cell? ⟨w.heap.size, 3, none⟩ = some (.int .i64 x.n.n) ∧ wx.cell? ⟨w.heap.size, 4, none⟩ = some (.int .i64 x.t) ∧ wx.cell? ⟨w.heap.size + 1, 0, none⟩ = some (.bool y.n.a.v6) ∧ wx.cell? ⟨w.heap.size + 1, 1, none⟩ = some (.int .u64 y.n.a.hi) ∧ wx.cell? ⟨w.heap.size + 1, 2, none⟩ = some (.int .u64 y.n.a.lo) ∧ wx.cell? ⟨w.heap.size + 1, 3, none⟩ = some (.int .i64 y.n.n) ∧ wx.cell? ⟨w.heap.size + 1, 4, none⟩ = some (.int .i64 y.t) ∧ wx.cell? ⟨w1.heap.size, 0, none⟩ = some (.bool (parseB l).n.a.v6) ∧ wx.cell? ⟨w1.heap.size, 1, none⟩ = some (.int .u64 (parseB l).n.a.hi) ∧ wx.cell? ⟨w1.heap.size, 2, none⟩ = some (.int .u64 (parseB l).n.a.lo) ∧ wx.cell? ⟨w1.heap.size, 3, none⟩ = some (.int .i64 (parseB l).n.n) ∧ wx.cell? ⟨w1.heap.size, 4, none⟩ = some (.int .i64 (parseB l).t) ∧ wx.cell? ⟨w2.heap.size, 0, none⟩ = some (.bool (parseB l).n.a.v6) ∧ wx.cell? ⟨w2.heap.size, 1, none⟩ = some (.int .u64 (parseB l).n.a.hi) ∧ wx.cell? ⟨w2.heap.size, 2, none⟩ = some (.int .u64 (parseB l).n.a.lo) ∧ wx.cell? ⟨w2.heap.size, 3, none⟩ = some (.int .i64 (parseB l).n.n) ∧ wx.cell? ⟨w2.heap.size, 4, none⟩ = some (.int .i64 (parseB l).t) ∧ wx.cell? ⟨w2.heap.size + 1, 0, none⟩ = some (.bool x.n.a.v6) ∧ wx.cell? ⟨w2.heap.size + 1, 1, none⟩ = some (.int .u64 x.n.a.hi) ∧ wx.cell? ⟨w2.heap.size + 1, 2, none⟩ = some (.int .u64 x.n.a.lo) ∧ wx.cell? ⟨w2.heap.size + 1, 3, none⟩ = some (.int .i64 x.n.n) ∧ wx.cell? ⟨w2.heap.size + 1, 4, none⟩ = some (.int .i64 x.t) ∧ Below w.heap.size w wx) ?first ?rest
  case first =>
    refine ⟨?_, ?_, ?_, ?_, ?_, ?_, ?_, ?_, ?_, ?_, ?_, ?_, ?_, ?_, ?_, ?_, ?_, ?_, ?_, ?_, ?_, ?_, ?_, ?_, ?_, ?_⟩
    all_goals first | (simp [go_sem, *]; done) | repeat (first | (with_reducible exact hLow2) | (with_reducible refine Below.setCell ?_ (by first | (simp; done) | (simp; omega) | omega) _) | (with_reducible refine Below.alloc ?_ (by first | (simp; done) | (simp; omega) | omega) _))
  case rest =>
    intro wc hcut
    obtain ⟨d0, d1, d2, d3, d4, d5, d6, d7, d8, d9, d10, d11, d12, d13, d14, d15, d16, d17, d18, d19, d20, d21, d22, d23, d24, hlow⟩ := hcut
    clear u0 u1 u2 u3 u4 v0 v1 v2 v3 v4 p0 p1 p2 p3 p4 hs0 hs1 hb1 hb2 y0 y1 y2 z1 z2
    have hL5 := hL.below hlow
    have IN : ∀ w', Stays wc w' → S12x x y l w w1 w2 wc w' := fun w' h => ⟨Ci.cells_left h d0, Ci.cells_left h d1, Ci.cells_left h d2, Ci.cells_left h d3, Ci.cells_left h d4, Ci.cells_left h d5, Ci.cells_left h d6, Ci.cells_left h d7, Ci.cells_left h d8, Ci.cells_left h d9, Ci.cells_left h d10, Ci.cells_left h d11, Ci.cells_left h d12, Ci.cells_left h d13, Ci.cells_left h d14, Ci.cells_left h d15, Ci.cells_left h d16, Ci.cells_left h d17, Ci.cells_left h d18, Ci.cells_left h d19, Ci.cells_left h d20, Ci.cells_left h d21, Ci.cells_left h d22, Ci.cells_left h d23, Ci.cells_left h d24, h⟩
    have K1 : Hid (∀ W, S12x x y l w w1 w2 wc W → Calls Tryz.prog 7 #[.agg #[.bool x.n.a.v6, .int .u64 x.n.a.hi, .int .u64 x.n.a.lo, .int .i64 x.n.n, .int .i64 x.t]] W fun e w' => e = .returned (.bool (rightB x)) ∧ S12x x y l w w1 w2 wc w') := Lib.hid fun W h => by
      have hs := h.2.2.2.2.2.2.2.2.2.2.2.2.2.2.2.2.2.2.2.2.2.2.2.2.2
      have hc : Calls Tryz.prog 7 #[.agg #[.bool x.n.a.v6, .int .u64 x.n.a.hi, .int .u64 x.n.a.lo, .int .i64 x.n.n, .int .i64 x.t]] W fun e w' => e = .returned (.bool (rightB x)) ∧ Below W.heap.size W w' := rightB_any x W hx
      exact hc.mono fun e w' ⟨he, hb⟩ => ⟨he, IN _ (low_trans hs hb)⟩
    have K2 : Hid (∀ W, S12x x y l w w1 w2 wc W → Calls Tryz.prog 8 #[.agg #[.bool x.n.a.v6, .int .u64 x.n.a.hi, .int .u64 x.n.a.lo, .int .i64 x.n.n, .int .i64 x.t]] W fun e w' => e = .returned (.bool (rightB x)) ∧ S12x x y l w w1 w2 wc w') := Lib.hid fun W h => by
      have hs := h.2.2.2.2.2.2.2.2.2.2.2.2.2.2.2.2.2.2.2.2.2.2.2.2.2
      have hc : Calls Tryz.prog 8 #[.agg #[.bool x.n.a.v6, .int .u64 x.n.a.hi, .int .u64 x.n.a.lo, .int .i64 x.n.n, .int .i64 x.t]] W fun e w' => e = .returned (.bool (rightB x)) ∧ Below W.heap.size W w' := rrightB_any x W hx
      exact hc.mono fun e w' ⟨he, hb⟩ => ⟨he, IN _ (low_trans hs hb)⟩
    have K3 : Hid (∀ W, S12x x y l w w1 w2 wc W → Calls Tryz.prog 9 #[.agg #[.bool x.n.a.v6, .int .u64 x.n.a.hi, .int .u64 x.n.a.lo, .int .i64 x.n.n, .int .i64 x.t], .int .i64 y.t] W fun e w' => e = .returned (.bool cl) ∧ S12x x y l w w1 w2 wc w') := Lib.hid fun W h => by
      have hs := h.2.2.2.2.2.2.2.2.2.2.2.2.2.2.2.2.2.2.2.2.2.2.2.2.2
      have hc : Calls Tryz.prog 9 #[.agg #[.bool x.n.a.v6, .int .u64 x.n.a.hi, .int .u64 x.n.a.lo, .int .i64 x.n.n, .int .i64 x.t], .int .i64 y.t] W fun e w' => e = .returned (.bool cl) ∧ Below W.heap.size W w' := by rw [← hcl]; exact livesB_any x y.t W
      exact hc.mono fun e w' ⟨he, hb⟩ => ⟨he, IN _ (low_trans hs hb)⟩
    have K4 : Hid (∀ W, S12x x y l w w1 w2 wc W → Calls Tryz.prog 10 #[.agg #[.bool x.n.a.v6, .int .u64 x.n.a.hi, .int .u64 x.n.a.lo, .int .i64 x.n.n, .int .i64 x.t], .agg #[.bool y.n.a.v6, .int .u64 y.n.a.hi, .int .u64 y.n.a.lo], .int .i64 y.t] W fun e w' => e = .returned (.bool (hitsB x y.n.a y.t)) ∧ S12x x y l w w1 w2 wc w') := Lib.hid fun W h => by
      have hs := h.2.2.2.2.2.2.2.2.2.2.2.2.2.2.2.2.2.2.2.2.2.2.2.2.2
      have hc : Calls Tryz.prog 10 #[.agg #[.bool x.n.a.v6, .int .u64 x.n.a.hi, .int .u64 x.n.a.lo, .int .i64 x.n.n, .int .i64 x.t], .agg #[.bool y.n.a.v6, .int .u64 y.n.a.hi, .int .u64 y.n.a.lo], .int .i64 y.t] W fun e w' => e = .returned (.bool (hitsB x y.n.a y.t)) ∧ Below W.heap.size W w' := hitsB_any x y.n.a y.t W hx hy.1.1
      exact hc.mono fun e w' ⟨he, hb⟩ => ⟨he, IN _ (low_trans hs hb)⟩
    have K5 : Hid (∀ W, S12x x y l w w1 w2 wc W → Calls Tryz.prog 11 #[.agg #[.bool x.n.a.v6, .int .u64 x.n.a.hi, .int .u64 x.n.a.lo, .int .i64 x.n.n, .int .i64 x.t], .agg #[.bool y.n.a.v6, .int .u64 y.n.a.hi, .int .u64 y.n.a.lo], .int .i64 y.t] W fun e w' => e = .returned (.bool (hitsB x y.n.a y.t)) ∧ S12x x y l w w1 w2 wc w') := Lib.hid fun W h => by
      have hs := h.2.2.2.2.2.2.2.2.2.2.2.2.2.2.2.2.2.2.2.2.2.2.2.2.2
      have hc : Calls Tryz.prog 11 #[.agg #[.bool x.n.a.v6, .int .u64 x.n.a.hi, .int .u64 x.n.a.lo, .int .i64 x.n.n, .int .i64 x.t], .agg #[.bool y.n.a.v6, .int .u64 y.n.a.hi, .int .u64 y.n.a.lo], .int .i64 y.t] W fun e w' => e = .returned (.bool (hitsB x y.n.a y.t)) ∧ Below W.heap.size W w' := rhitsB_any x y.n.a y.t W hx hy.1.1
      exact hc.mono fun e w' ⟨he, hb⟩ => ⟨he, IN _ (low_trans hs hb)⟩
    have K6 : Hid (∀ W, S12x x y l w w1 w2 wc W → Calls Tryz.prog 12 #[.agg #[.bool x.n.a.v6, .int .u64 x.n.a.hi, .int .u64 x.n.a.lo, .int .i64 x.n.n, .int .i64 x.t], .agg #[.bool y.n.a.v6, .int .u64 y.n.a.hi, .int .u64 y.n.a.lo, .int .i64 y.n.n, .int .i64 y.t]] W fun e w' => e = .returned (.agg #[.bool x.n.a.v6, .int .u64 x.n.a.hi, .int .u64 x.n.a.lo, .int .i64 x.n.n, .int .i64 x.t]) ∧ S12x x y l w w1 w2 wc w') := Lib.hid fun W h => by
      have hs := h.2.2.2.2.2.2.2.2.2.2.2.2.2.2.2.2.2.2.2.2.2.2.2.2.2
      have hc : Calls Tryz.prog 12 #[.agg #[.bool x.n.a.v6, .int .u64 x.n.a.hi, .int .u64 x.n.a.lo, .int .i64 x.n.n, .int .i64 x.t], .agg #[.bool y.n.a.v6, .int .u64 y.n.a.hi, .int .u64 y.n.a.lo, .int .i64 y.n.n, .int .i64 y.t]] W fun e w' => e = .returned (.agg #[.bool x.n.a.v6, .int .u64 x.n.a.hi, .int .u64 x.n.a.lo, .int .i64 x.n.n, .int .i64 x.t]) ∧ Below W.heap.size W w' := by have k := joinB_any x y W; rwa [HJ.out] at k
      exact hc.mono fun e w' ⟨he, hb⟩ => ⟨he, IN _ (low_trans hs hb)⟩
    have K7 : Hid (∀ W, S12x x y l w w1 w2 wc W → Calls Tryz.prog 13 #[.agg #[.bool x.n.a.v6, .int .u64 x.n.a.hi, .int .u64 x.n.a.lo, .int .i64 x.n.n, .int .i64 x.t]] W fun e w' => e = .returned (.string ⟨(textB x).toArray⟩) ∧ S12x x y l w w1 w2 wc w') := Lib.hid fun W h => by
      have hs := h.2.2.2.2.2.2.2.2.2.2.2.2.2.2.2.2.2.2.2.2.2.2.2.2.2
      have hc : Calls Tryz.prog 13 #[.agg #[.bool x.n.a.v6, .int .u64 x.n.a.hi, .int .u64 x.n.a.lo, .int .i64 x.n.n, .int .i64 x.t]] W fun e w' => e = .returned (.string ⟨(textB x).toArray⟩) ∧ Below W.heap.size W w' := textB_any x W hx
      exact hc.mono fun e w' ⟨he, hb⟩ => ⟨he, IN _ (low_trans hs hb)⟩
    have K8 : Hid (∀ W, S12x x y l w w1 w2 wc W → Calls Tryz.prog 14 #[.agg #[.bool x.n.a.v6, .int .u64 x.n.a.hi, .int .u64 x.n.a.lo, .int .i64 x.n.n, .int .i64 x.t]] W fun e w' => e = .returned (.string ⟨(textB x).toArray⟩) ∧ S12x x y l w w1 w2 wc w') := Lib.hid fun W h => by
      have hs := h.2.2.2.2.2.2.2.2.2.2.2.2.2.2.2.2.2.2.2.2.2.2.2.2.2
      have hc : Calls Tryz.prog 14 #[.agg #[.bool x.n.a.v6, .int .u64 x.n.a.hi, .int .u64 x.n.a.lo, .int .i64 x.n.n, .int .i64 x.t]] W fun e w' => e = .returned (.string ⟨(textB x).toArray⟩) ∧ Below W.heap.size W w' := rtextB_any x W hx
      exact hc.mono fun e w' ⟨he, hb⟩ => ⟨he, IN _ (low_trans hs hb)⟩
    have K9 : Hid (∀ W, S12x x y l w w1 w2 wc W → Calls Tryz.prog 4 #[] W fun e w' => e = .returned (.bool true) ∧ S12x x y l w w1 w2 wc w') := Lib.hid fun W h => by
      have hs := h.2.2.2.2.2.2.2.2.2.2.2.2.2.2.2.2.2.2.2.2.2.2.2.2.2
      have hc : Calls Tryz.prog 4 #[] W fun e w' => e = .returned (.bool true) ∧ Below W.heap.size W w' := awake12_any W (hL5.below hs)
      exact hc.mono fun e w' ⟨he, hb⟩ => ⟨he, IN _ (low_trans hs hb)⟩
    have hk0 : S12x x y l w w1 w2 wc wc := IN _ (Below.refl _ _)
    clear d0 d1 d2 d3 d4 d5 d6 d7 d8 d9 d10 d11 d12 d13 d14 d15 d16 d17 d18 d19 d20 d21 d22 d23 d24
    have hne : Nonempty (Cls (S12x x y l w w1 w2 wc)) := ⟨⟨_, hk0⟩⟩
    have f0 : ∀ q : Cls (S12x x y l w w1 w2 wc), q.w.cell? ⟨w.heap.size, 0, none⟩ = some (.bool x.n.a.v6) := fun q => q.h.1
    have f1 : ∀ q : Cls (S12x x y l w w1 w2 wc), q.w.cell? ⟨w.heap.size, 1, none⟩ = some (.int .u64 x.n.a.hi) := fun q => q.h.2.1
    have f2 : ∀ q : Cls (S12x x y l w w1 w2 wc), q.w.cell? ⟨w.heap.size, 2, none⟩ = some (.int .u64 x.n.a.lo) := fun q => q.h.2.2.1
    have f3 : ∀ q : Cls (S12x x y l w w1 w2 wc), q.w.cell? ⟨w.heap.size, 3, none⟩ = some (.int .i64 x.n.n) := fun q => q.h.2.2.2.1
    have f4 : ∀ q : Cls (S12x x y l w w1 w2 wc), q.w.cell? ⟨w.heap.size, 4, none⟩ = some (.int .i64 x.t) := fun q => q.h.2.2.2.2.1
    have f5 : ∀ q : Cls (S12x x y l w w1 w2 wc), q.w.cell? ⟨w.heap.size + 1, 0, none⟩ = some (.bool y.n.a.v6) := fun q => q.h.2.2.2.2.2.1
    have f6 : ∀ q : Cls (S12x x y l w w1 w2 wc), q.w.cell? ⟨w.heap.size + 1, 1, none⟩ = some (.int .u64 y.n.a.hi) := fun q => q.h.2.2.2.2.2.2.1
    have f7 : ∀ q : Cls (S12x x y l w w1 w2 wc), q.w.cell? ⟨w.heap.size + 1, 2, none⟩ = some (.int .u64 y.n.a.lo) := fun q => q.h.2.2.2.2.2.2.2.1
    have f8 : ∀ q : Cls (S12x x y l w w1 w2 wc), q.w.cell? ⟨w.heap.size + 1, 3, none⟩ = some (.int .i64 y.n.n) := fun q => q.h.2.2.2.2.2.2.2.2.1
    have f9 : ∀ q : Cls (S12x x y l w w1 w2 wc), q.w.cell? ⟨w.heap.size + 1, 4, none⟩ = some (.int .i64 y.t) := fun q => q.h.2.2.2.2.2.2.2.2.2.1
    have f10 : ∀ q : Cls (S12x x y l w w1 w2 wc), q.w.cell? ⟨w1.heap.size, 0, none⟩ = some (.bool (parseB l).n.a.v6) := fun q => q.h.2.2.2.2.2.2.2.2.2.2.1
    have f11 : ∀ q : Cls (S12x x y l w w1 w2 wc), q.w.cell? ⟨w1.heap.size, 1, none⟩ = some (.int .u64 (parseB l).n.a.hi) := fun q => q.h.2.2.2.2.2.2.2.2.2.2.2.1
    have f12 : ∀ q : Cls (S12x x y l w w1 w2 wc), q.w.cell? ⟨w1.heap.size, 2, none⟩ = some (.int .u64 (parseB l).n.a.lo) := fun q => q.h.2.2.2.2.2.2.2.2.2.2.2.2.1
    have f13 : ∀ q : Cls (S12x x y l w w1 w2 wc), q.w.cell? ⟨w1.heap.size, 3, none⟩ = some (.int .i64 (parseB l).n.n) := fun q => q.h.2.2.2.2.2.2.2.2.2.2.2.2.2.1
    have f14 : ∀ q : Cls (S12x x y l w w1 w2 wc), q.w.cell? ⟨w1.heap.size, 4, none⟩ = some (.int .i64 (parseB l).t) := fun q => q.h.2.2.2.2.2.2.2.2.2.2.2.2.2.2.1
    have f15 : ∀ q : Cls (S12x x y l w w1 w2 wc), q.w.cell? ⟨w2.heap.size, 0, none⟩ = some (.bool (parseB l).n.a.v6) := fun q => q.h.2.2.2.2.2.2.2.2.2.2.2.2.2.2.2.1
    have f16 : ∀ q : Cls (S12x x y l w w1 w2 wc), q.w.cell? ⟨w2.heap.size, 1, none⟩ = some (.int .u64 (parseB l).n.a.hi) := fun q => q.h.2.2.2.2.2.2.2.2.2.2.2.2.2.2.2.2.1
    have f17 : ∀ q : Cls (S12x x y l w w1 w2 wc), q.w.cell? ⟨w2.heap.size, 2, none⟩ = some (.int .u64 (parseB l).n.a.lo) := fun q => q.h.2.2.2.2.2.2.2.2.2.2.2.2.2.2.2.2.2.1
    have f18 : ∀ q : Cls (S12x x y l w w1 w2 wc), q.w.cell? ⟨w2.heap.size, 3, none⟩ = some (.int .i64 (parseB l).n.n) := fun q => q.h.2.2.2.2.2.2.2.2.2.2.2.2.2.2.2.2.2.2.1
    have f19 : ∀ q : Cls (S12x x y l w w1 w2 wc), q.w.cell? ⟨w2.heap.size, 4, none⟩ = some (.int .i64 (parseB l).t) := fun q => q.h.2.2.2.2.2.2.2.2.2.2.2.2.2.2.2.2.2.2.2.1
    have f20 : ∀ q : Cls (S12x x y l w w1 w2 wc), q.w.cell? ⟨w2.heap.size + 1, 0, none⟩ = some (.bool x.n.a.v6) := fun q => q.h.2.2.2.2.2.2.2.2.2.2.2.2.2.2.2.2.2.2.2.2.1
    have f21 : ∀ q : Cls (S12x x y l w w1 w2 wc), q.w.cell? ⟨w2.heap.size + 1, 1, none⟩ = some (.int .u64 x.n.a.hi) := fun q => q.h.2.2.2.2.2.2.2.2.2.2.2.2.2.2.2.2.2.2.2.2.2.1
    have f22 : ∀ q : Cls (S12x x y l w w1 w2 wc), q.w.cell? ⟨w2.heap.size + 1, 2, none⟩ = some (.int .u64 x.n.a.lo) := fun q => q.h.2.2.2.2.2.2.2.2.2.2.2.2.2.2.2.2.2.2.2.2.2.2.1
    have f23 : ∀ q : Cls (S12x x y l w w1 w2 wc), q.w.cell? ⟨w2.heap.size + 1, 3, none⟩ = some (.int .i64 x.n.n) := fun q => q.h.2.2.2.2.2.2.2.2.2.2.2.2.2.2.2.2.2.2.2.2.2.2.2.1
    have f24 : ∀ q : Cls (S12x x y l w w1 w2 wc), q.w.cell? ⟨w2.heap.size + 1, 4, none⟩ = some (.int .i64 x.t) := fun q => q.h.2.2.2.2.2.2.2.2.2.2.2.2.2.2.2.2.2.2.2.2.2.2.2.2.1
    refine Cls.region (S12x x y l w w1 w2 wc) (by kernel_rfl) (by kernel_rfl) (IN _ (low_drewN hk0.2.2.2.2.2.2.2.2.2.2.2.2.2.2.2.2.2.2.2.2.2.2.2.2.2 1)) ?_
    repeat (go_big_quiet_step (first | (with_reducible exact Cls.call (K1.out _ (Cls.h _))) | (with_reducible exact Cls.call (K2.out _ (Cls.h _))) | (with_reducible exact Cls.call (K3.out _ (Cls.h _))) | (with_reducible exact Cls.call (K4.out _ (Cls.h _))) | (with_reducible exact Cls.call (K5.out _ (Cls.h _))) | (with_reducible exact Cls.call (K6.out _ (Cls.h _))) | (with_reducible exact Cls.call (K7.out _ (Cls.h _))) | (with_reducible exact Cls.call (K8.out _ (Cls.h _))) | (with_reducible exact Cls.call (K9.out _ (Cls.h _)))))
    refine wpQuiet_nil ?_
    intro n9
    have hk9 := n9.h
    generalize n9.w = w9 at hk9 ⊢
    clear hne n9 f0 f1 f2 f3 f4 f5 f6 f7 f8 f9 f10 f11 f12 f13 f14 f15 f16 f17 f18 f19 f20 f21 f22 f23 f24
    go_wp2_with fail
    go_ret
    exact ⟨rfl, hlow.trans (hk9.2.2.2.2.2.2.2.2.2.2.2.2.2.2.2.2.2.2.2.2.2.2.2.2.2.mono hlow.size)⟩
set_option maxHeartbeats 32000000 in
theorem btells_less (w : World) (x : Ban) (hx : x.ok) (y : Ban) (hy : y.ok) (l : List UInt8) (hl : l.length ≤ 1000) (hL : Lens w) (hq : sameN x.n y.n = true) (hg : ¬ x.t < y.t) :
    Calls Tryz.prog 3 #[.agg #[.bool x.n.a.v6, .int .u64 x.n.a.hi, .int .u64 x.n.a.lo, .int .i64 x.n.n, .int .i64 x.t], .agg #[.bool y.n.a.v6, .int .u64 y.n.a.hi, .int .u64 y.n.a.lo, .int .i64 y.n.n, .int .i64 y.t], .string ⟨l.toArray⟩] w fun e w' => e = .returned (.bool true) ∧ Below w.heap.size w w' := by
  have hB2 : Below w.heap.size w ((w.alloc (.cells #[.bool x.n.a.v6, .int .u64 x.n.a.hi, .int .u64 x.n.a.lo, .int .i64 x.n.n, .int .i64 x.t] 28)).alloc (.cells #[.bool y.n.a.v6, .int .u64 y.n.a.hi, .int .u64 y.n.a.lo, .int .i64 y.n.n, .int .i64 y.t] 28)) := ((Below.refl _ _).alloc (Nat.le_refl _) _).alloc (by simp) _
  have hL0 := hL.below hB2
  have EN : ∀ W, (binOp .eql 26 (.agg #[.bool x.n.a.v6, .int .u64 x.n.a.hi, .int .u64 x.n.a.lo, .int .i64 x.n.n]) (.agg #[.bool y.n.a.v6, .int .u64 y.n.a.hi, .int .u64 y.n.a.lo, .int .i64 y.n.n])).run Tryz.prog W = .ok (.bool true) W := fun W => by rw [eqNet, hq]
  have EJ : ∀ W, (binOp .eql 28 (.agg #[.bool x.n.a.v6, .int .u64 x.n.a.hi, .int .u64 x.n.a.lo, .int .i64 x.n.n, .int .i64 x.t]) (.agg #[.bool x.n.a.v6, .int .u64 x.n.a.hi, .int .u64 x.n.a.lo, .int .i64 x.n.n, .int .i64 x.t])).run Tryz.prog W = .ok (.bool true) W := fun W => by rw [eqBan, sameB_self]
  have EP : ∀ W, (binOp .eql 28 (.agg #[.bool (parseB l).n.a.v6, .int .u64 (parseB l).n.a.hi, .int .u64 (parseB l).n.a.lo, .int .i64 (parseB l).n.n, .int .i64 (parseB l).t]) (.agg #[.bool (parseB l).n.a.v6, .int .u64 (parseB l).n.a.hi, .int .u64 (parseB l).n.a.lo, .int .i64 (parseB l).n.n, .int .i64 (parseB l).t])).run Tryz.prog W = .ok (.bool true) W := fun W => by rw [eqBan, sameB_self]
  have HJ : Hid (joinB x y = x) := Lib.hid (by unfold joinB; rw [hq]; simp [hg])
  clear hq
  obtain ⟨cl, hcl⟩ : ∃ cl, decide (y.t < x.t) = cl := ⟨_, rfl⟩
  go_enter Tryz.func3, Tryz.ntmps3
  go_wp2_with fail
  refine (parseB_any l _ (by omega) hL0).mono ?_
  rintro e w1 ⟨rfl, hb1⟩
  have hL1 := hL0.below hb1
  go_wp2_with fail
  refine (rparseB_any l _ (by omega)).mono ?_
  rintro e w2 ⟨rfl, hb2⟩
  have hs1 : Stays (w1.alloc (.cells #[.bool (parseB l).n.a.v6, .int .u64 (parseB l).n.a.hi, .int .u64 (parseB l).n.a.lo, .int .i64 (parseB l).n.n, .int .i64 (parseB l).t] 28)) w2 := hb2
  have hs0 : Stays ((w.alloc (.cells #[.bool x.n.a.v6, .int .u64 x.n.a.hi, .int .u64 x.n.a.lo, .int .i64 x.n.n, .int .i64 x.t] 28)).alloc (.cells #[.bool y.n.a.v6, .int .u64 y.n.a.hi, .int .u64 y.n.a.lo, .int .i64 y.n.n, .int .i64 y.t] 28)) w2 := low_trans hb1 (low_trans ((Below.refl _ _).alloc (Nat.le_refl _) _) hs1)
  have z1 : w.heap.size + 2 ≤ w1.heap.size := by have := hb1.size; simpa using this
  have z2 : w1.heap.size + 1 ≤ w2.heap.size := by have := hb2.size; simpa using this
  have u0 : w2.cell? ⟨w.heap.size, 0, none⟩ = some (.bool x.n.a.v6) := Ci.cells_left hs0 (Ci.cells_left ((Below.refl _ _).alloc (Nat.le_refl _) _) (cell_at _ _ _ 0 _ rfl))
  have u1 : w2.cell? ⟨w.heap.size, 1, none⟩ = some (.int .u64 x.n.a.hi) := Ci.cells_left hs0 (Ci.cells_left ((Below.refl _ _).alloc (Nat.le_refl _) _) (cell_at _ _ _ 1 _ rfl))
  have u2 : w2.cell? ⟨w.heap.size, 2, none⟩ = some (.int .u64 x.n.a.lo) := Ci.cells_left hs0 (Ci.cells_left ((Below.refl _ _).alloc (Nat.le_refl _) _) (cell_at _ _ _ 2 _ rfl))
  have u3 : w2.cell? ⟨w.heap.size, 3, none⟩ = some (.int .i64 x.n.n) := Ci.cells_left hs0 (Ci.cells_left ((Below.refl _ _).alloc (Nat.le_refl _) _) (cell_at _ _ _ 3 _ rfl))
  have u4 : w2.cell? ⟨w.heap.size, 4, none⟩ = some (.int .i64 x.t) := Ci.cells_left hs0 (Ci.cells_left ((Below.refl _ _).alloc (Nat.le_refl _) _) (cell_at _ _ _ 4 _ rfl))
  have v0 : w2.cell? ⟨w.heap.size + 1, 0, none⟩ = some (.bool y.n.a.v6) := Ci.cells_left hs0 (by have k := cell_at (w.alloc (.cells #[.bool x.n.a.v6, .int .u64 x.n.a.hi, .int .u64 x.n.a.lo, .int .i64 x.n.n, .int .i64 x.t] 28)) #[.bool y.n.a.v6, .int .u64 y.n.a.hi, .int .u64 y.n.a.lo, .int .i64 y.n.n, .int .i64 y.t] 28 0 _ rfl; rwa [show (w.alloc (.cells #[.bool x.n.a.v6, .int .u64 x.n.a.hi, .int .u64 x.n.a.lo, .int .i64 x.n.n, .int .i64 x.t] 28)).heap.size = w.heap.size + 1 by simp] at k)
  have v1 : w2.cell? ⟨w.heap.size + 1, 1, none⟩ = some (.int .u64 y.n.a.hi) := Ci.cells_left hs0 (by have k := cell_at (w.alloc (.cells #[.bool x.n.a.v6, .int .u64 x.n.a.hi, .int .u64 x.n.a.lo, .int .i64 x.n.n, .int .i64 x.t] 28)) #[.bool y.n.a.v6, .int .u64 y.n.a.hi, .int .u64 y.n.a.lo, .int .i64 y.n.n, .int .i64 y.t] 28 1 _ rfl; rwa [show (w.alloc (.cells #[.bool x.n.a.v6, .int .u64 x.n.a.hi, .int .u64 x.n.a.lo, .int .i64 x.n.n, .int .i64 x.t] 28)).heap.size = w.heap.size + 1 by simp] at k)
  have v2 : w2.cell? ⟨w.heap.size + 1, 2, none⟩ = some (.int .u64 y.n.a.lo) := Ci.cells_left hs0 (by have k := cell_at (w.alloc (.cells #[.bool x.n.a.v6, .int .u64 x.n.a.hi, .int .u64 x.n.a.lo, .int .i64 x.n.n, .int .i64 x.t] 28)) #[.bool y.n.a.v6, .int .u64 y.n.a.hi, .int .u64 y.n.a.lo, .int .i64 y.n.n, .int .i64 y.t] 28 2 _ rfl; rwa [show (w.alloc (.cells #[.bool x.n.a.v6, .int .u64 x.n.a.hi, .int .u64 x.n.a.lo, .int .i64 x.n.n, .int .i64 x.t] 28)).heap.size = w.heap.size + 1 by simp] at k)
  have v3 : w2.cell? ⟨w.heap.size + 1, 3, none⟩ = some (.int .i64 y.n.n) := Ci.cells_left hs0 (by have k := cell_at (w.alloc (.cells #[.bool x.n.a.v6, .int .u64 x.n.a.hi, .int .u64 x.n.a.lo, .int .i64 x.n.n, .int .i64 x.t] 28)) #[.bool y.n.a.v6, .int .u64 y.n.a.hi, .int .u64 y.n.a.lo, .int .i64 y.n.n, .int .i64 y.t] 28 3 _ rfl; rwa [show (w.alloc (.cells #[.bool x.n.a.v6, .int .u64 x.n.a.hi, .int .u64 x.n.a.lo, .int .i64 x.n.n, .int .i64 x.t] 28)).heap.size = w.heap.size + 1 by simp] at k)
  have v4 : w2.cell? ⟨w.heap.size + 1, 4, none⟩ = some (.int .i64 y.t) := Ci.cells_left hs0 (by have k := cell_at (w.alloc (.cells #[.bool x.n.a.v6, .int .u64 x.n.a.hi, .int .u64 x.n.a.lo, .int .i64 x.n.n, .int .i64 x.t] 28)) #[.bool y.n.a.v6, .int .u64 y.n.a.hi, .int .u64 y.n.a.lo, .int .i64 y.n.n, .int .i64 y.t] 28 4 _ rfl; rwa [show (w.alloc (.cells #[.bool x.n.a.v6, .int .u64 x.n.a.hi, .int .u64 x.n.a.lo, .int .i64 x.n.n, .int .i64 x.t] 28)).heap.size = w.heap.size + 1 by simp] at k)
  have p0 : w2.cell? ⟨w1.heap.size, 0, none⟩ = some (.bool (parseB l).n.a.v6) := Ci.cells_left hs1 (cell_at _ _ _ 0 _ rfl)
  have p1 : w2.cell? ⟨w1.heap.size, 1, none⟩ = some (.int .u64 (parseB l).n.a.hi) := Ci.cells_left hs1 (cell_at _ _ _ 1 _ rfl)
  have p2 : w2.cell? ⟨w1.heap.size, 2, none⟩ = some (.int .u64 (parseB l).n.a.lo) := Ci.cells_left hs1 (cell_at _ _ _ 2 _ rfl)
  have p3 : w2.cell? ⟨w1.heap.size, 3, none⟩ = some (.int .i64 (parseB l).n.n) := Ci.cells_left hs1 (cell_at _ _ _ 3 _ rfl)
  have p4 : w2.cell? ⟨w1.heap.size, 4, none⟩ = some (.int .i64 (parseB l).t) := Ci.cells_left hs1 (cell_at _ _ _ 4 _ rfl)
  have hLow2 : Below w.heap.size w w2 := hB2.trans (hs0.mono (by simp; omega))
  have y0 : w.heap.size < w2.heap.size := by omega
  have y1 : w.heap.size + 1 < w2.heap.size := by omega
  have y2 : w1.heap.size < w2.heap.size := by omega
  go_upto_region 8 with fail
  refine Ci.swap (P := fun wc => Code.wp _ _ _ _ wc) (R := fun wx => wx.cell? ⟨w.heap.size, 0, none⟩ = some (.bool x.n.a.v6) ∧ wx.cell? ⟨w.heap.size, 1, none⟩ = some (.int .u64 x.n.a.hi) ∧ wx.cell? ⟨w.heap.size, 2, none⟩ = some (.int .u64 x.n.a.lo) ∧ wx.cell? ⟨w.heap.size, 3, none⟩ = some (.int .i64 x.n.n) ∧ wx.cell? ⟨w.heap.size, 4, none⟩ = some (.int .i64 x.t) ∧ wx.cell? ⟨w.heap.size + 1, 0, none⟩ = some (.bool y.n.a.v6) ∧ wx.cell? ⟨w.heap.size + 1, 1, none⟩ = some (.int .u64 y.n.a.hi) ∧ wx.cell? ⟨w.heap.size + 1, 2, none⟩ = some (.int .u64 y.n.a.lo) ∧ wx.cell? ⟨w.heap.size + 1, 3, none⟩ = some (.int .i64 y.n.n) ∧ wx.cell? ⟨w.heap.size + 1, 4, none⟩ = some (.int .i64 y.t) ∧ wx.cell? ⟨w1.heap.size, 0, none⟩ = some (.bool (parseB l).n.a.v6) ∧ wx.cell? ⟨w1.heap.size, 1, none⟩ = some (.int .u64 (parseB l).n.a.hi) ∧ wx.cell? ⟨w1.heap.size, 2, none⟩ = some (.int .u64 (parseB l).n.a.lo) ∧ wx.cell? ⟨w1.heap.size, 3, none⟩ = some (.int .i64 (parseB l).n.n) ∧ wx.cell? ⟨w1.heap.size, 4, none⟩ = some (.int .i64 (parseB l).t) ∧ wx.cell? ⟨w2.heap.size, 0, none⟩ = some (.bool (parseB l).n.a.v6) ∧ wx.cell? ⟨w2.heap.size, 1, none⟩ = some (.int .u64 (parseB l).n.a.hi) ∧ wx.cell? ⟨w2.heap.size, 2, none⟩ = some (.int .u64 (parseB l).n.a.lo) ∧ wx.cell? ⟨w2.heap.size, 3, none⟩ = some (.int .i64 (parseB l).n.n) ∧ wx.cell? ⟨w2.heap.size, 4, none⟩ = some (.int .i64 (parseB l).t) ∧ wx.cell? ⟨w2.heap.size + 1, 0, none⟩ = some (.bool x.n.a.v6) ∧ wx.cell? ⟨w2.heap.size + 1, 1, none⟩ = some (.int .u64 x.n.a.hi) ∧ wx.cell? ⟨w2.heap.size + 1, 2, none⟩ = some (.int .u64 x.n.a.lo) ∧ wx.cell? ⟨w2.heap.size + 1, 3, none⟩ = some (.int .i64 x.n.n) ∧ wx.cell? ⟨w2.heap.size + 1, 4, none⟩ = some (.int .i64 x.t) ∧ Below w.heap.size w wx) ?first ?rest
  case first =>
    refine ⟨?_, ?_, ?_, ?_, ?_, ?_, ?_, ?_, ?_, ?_, ?_, ?_, ?_, ?_, ?_, ?_, ?_, ?_, ?_, ?_, ?_, ?_, ?_, ?_, ?_, ?_⟩
    all_goals first | (simp [go_sem, *]; done) | repeat (first | (with_reducible exact hLow2) | (with_reducible refine Below.setCell ?_ (by first | (simp; done) | (simp; omega) | omega) _) | (with_reducible refine Below.alloc ?_ (by first | (simp; done) | (simp; omega) | omega) _))
  case rest =>
    intro wc hcut
    obtain ⟨d0, d1, d2, d3, d4, d5, d6, d7, d8, d9, d10, d11, d12, d13, d14, d15, d16, d17, d18, d19, d20, d21, d22, d23, d24, hlow⟩ := hcut
    clear u0 u1 u2 u3 u4 v0 v1 v2 v3 v4 p0 p1 p2 p3 p4 hs0 hs1 hb1 hb2 y0 y1 y2 z1 z2
    have hL5 := hL.below hlow
    have IN : ∀ w', Stays wc w' → S12x x y l w w1 w2 wc w' := fun w' h => ⟨Ci.cells_left h d0, Ci.cells_left h d1, Ci.cells_left h d2, Ci.cells_left h d3, Ci.cells_left h d4, Ci.cells_left h d5, Ci.cells_left h d6, Ci.cells_left h d7, Ci.cells_left h d8, Ci.cells_left h d9, Ci.cells_left h d10, Ci.cells_left h d11, Ci.cells_left h d12, Ci.cells_left h d13, Ci.cells_left h d14, Ci.cells_left h d15, Ci.cells_left h d16, Ci.cells_left h d17, Ci.cells_left h d18, Ci.cells_left h d19, Ci.cells_left h d20, Ci.cells_left h d21, Ci.cells_left h d22, Ci.cells_left h d23, Ci.cells_left h d24, h⟩
    have K1 : Hid (∀ W, S12x x y l w w1 w2 wc W → Calls Tryz.prog 7 #[.agg #[.bool x.n.a.v6, .int .u64 x.n.a.hi, .int .u64 x.n.a.lo, .int .i64 x.n.n, .int .i64 x.t]] W fun e w' => e = .returned (.bool (rightB x)) ∧ S12x x y l w w1 w2 wc w') := Lib.hid fun W h => by
      have hs := h.2.2.2.2.2.2.2.2.2.2.2.2.2.2.2.2.2.2.2.2.2.2.2.2.2
      have hc : Calls Tryz.prog 7 #[.agg #[.bool x.n.a.v6, .int .u64 x.n.a.hi, .int .u64 x.n.a.lo, .int .i64 x.n.n, .int .i64 x.t]] W fun e w' => e = .returned (.bool (rightB x)) ∧ Below W.heap.size W w' := rightB_any x W hx
      exact hc.mono fun e w' ⟨he, hb⟩ => ⟨he, IN _ (low_trans hs hb)⟩
    have K2 : Hid (∀ W, S12x x y l w w1 w2 wc W → Calls Tryz.prog 8 #[.agg #[.bool x.n.a.v6, .int .u64 x.n.a.hi, .int .u64 x.n.a.lo, .int .i64 x.n.n, .int .i64 x.t]] W fun e w' => e = .returned (.bool (rightB x)) ∧ S12x x y l w w1 w2 wc w') := Lib.hid fun W h => by
      have hs := h.2.2.2.2.2.2.2.2.2.2.2.2.2.2.2.2.2.2.2.2.2.2.2.2.2
      have hc : Calls Tryz.prog 8 #[.agg #[.bool x.n.a.v6, .int .u64 x.n.a.hi, .int .u64 x.n.a.lo, .int .i64 x.n.n, .int .i64 x.t]] W fun e w' => e = .returned (.bool (rightB x)) ∧ Below W.heap.size W w' := rrightB_any x W hx
      exact hc.mono fun e w' ⟨he, hb⟩ => ⟨he, IN _ (low_trans hs hb)⟩
    have K3 : Hid (∀ W, S12x x y l w w1 w2 wc W → Calls Tryz.prog 9 #[.agg #[.bool x.n.a.v6, .int .u64 x.n.a.hi, .int .u64 x.n.a.lo, .int .i64 x.n.n, .int .i64 x.t], .int .i64 y.t] W fun e w' => e = .returned (.bool cl) ∧ S12x x y l w w1 w2 wc w') := Lib.hid fun W h => by
      have hs := h.2.2.2.2.2.2.2.2.2.2.2.2.2.2.2.2.2.2.2.2.2.2.2.2.2
      have hc : Calls Tryz.prog 9 #[.agg #[.bool x.n.a.v6, .int .u64 x.n.a.hi, .int .u64 x.n.a.lo, .int .i64 x.n.n, .int .i64 x.t], .int .i64 y.t] W fun e w' => e = .returned (.bool cl) ∧ Below W.heap.size W w' := by rw [← hcl]; exact livesB_any x y.t W
      exact hc.mono fun e w' ⟨he, hb⟩ => ⟨he, IN _ (low_trans hs hb)⟩
    have K4 : Hid (∀ W, S12x x y l w w1 w2 wc W → Calls Tryz.prog 10 #[.agg #[.bool x.n.a.v6, .int .u64 x.n.a.hi, .int .u64 x.n.a.lo, .int .i64 x.n.n, .int .i64 x.t], .agg #[.bool y.n.a.v6, .int .u64 y.n.a.hi, .int .u64 y.n.a.lo], .int .i64 y.t] W fun e w' => e = .returned (.bool (hitsB x y.n.a y.t)) ∧ S12x x y l w w1 w2 wc w') := Lib.hid fun W h => by
      have hs := h.2.2.2.2.2.2.2.2.2.2.2.2.2.2.2.2.2.2.2.2.2.2.2.2.2
      have hc : Calls Tryz.prog 10 #[.agg #[.bool x.n.a.v6, .int .u64 x.n.a.hi, .int .u64 x.n.a.lo, .int .i64 x.n.n, .int .i64 x.t], .agg #[.bool y.n.a.v6, .int .u64 y.n.a.hi, .int .u64 y.n.a.lo], .int .i64 y.t] W fun e w' => e = .returned (.bool (hitsB x y.n.a y.t)) ∧ Below W.heap.size W w' := hitsB_any x y.n.a y.t W hx hy.1.1
      exact hc.mono fun e w' ⟨he, hb⟩ => ⟨he, IN _ (low_trans hs hb)⟩
    have K5 : Hid (∀ W, S12x x y l w w1 w2 wc W → Calls Tryz.prog 11 #[.agg #[.bool x.n.a.v6, .int .u64 x.n.a.hi, .int .u64 x.n.a.lo, .int .i64 x.n.n, .int .i64 x.t], .agg #[.bool y.n.a.v6, .int .u64 y.n.a.hi, .int .u64 y.n.a.lo], .int .i64 y.t] W fun e w' => e = .returned (.bool (hitsB x y.n.a y.t)) ∧ S12x x y l w w1 w2 wc w') := Lib.hid fun W h => by
      have hs := h.2.2.2.2.2.2.2.2.2.2.2.2.2.2.2.2.2.2.2.2.2.2.2.2.2
      have hc : Calls Tryz.prog 11 #[.agg #[.bool x.n.a.v6, .int .u64 x.n.a.hi, .int .u64 x.n.a.lo, .int .i64 x.n.n, .int .i64 x.t], .agg #[.bool y.n.a.v6, .int .u64 y.n.a.hi, .int .u64 y.n.a.lo], .int .i64 y.t] W fun e w' => e = .returned (.bool (hitsB x y.n.a y.t)) ∧ Below W.heap.size W w' := rhitsB_any x y.n.a y.t W hx hy.1.1
      exact hc.mono fun e w' ⟨he, hb⟩ => ⟨he, IN _ (low_trans hs hb)⟩
    have K6 : Hid (∀ W, S12x x y l w w1 w2 wc W → Calls Tryz.prog 12 #[.agg #[.bool x.n.a.v6, .int .u64 x.n.a.hi, .int .u64 x.n.a.lo, .int .i64 x.n.n, .int .i64 x.t], .agg #[.bool y.n.a.v6, .int .u64 y.n.a.hi, .int .u64 y.n.a.lo, .int .i64 y.n.n, .int .i64 y.t]] W fun e w' => e = .returned (.agg #[.bool x.n.a.v6, .int .u64 x.n.a.hi, .int .u64 x.n.a.lo, .int .i64 x.n.n, .int .i64 x.t]) ∧ S12x x y l w w1 w2 wc w') := Lib.hid fun W h => by
      have hs := h.2.2.2.2.2.2.2.2.2.2.2.2.2.2.2.2.2.2.2.2.2.2.2.2.2
      have hc : Calls Tryz.prog 12 #[.agg #[.bool x.n.a.v6, .int .u64 x.n.a.hi, .int .u64 x.n.a.lo, .int .i64 x.n.n, .int .i64 x.t], .agg #[.bool y.n.a.v6, .int .u64 y.n.a.hi, .int .u64 y.n.a.lo, .int .i64 y.n.n, .int .i64 y.t]] W fun e w' => e = .returned (.agg #[.bool x.n.a.v6, .int .u64 x.n.a.hi, .int .u64 x.n.a.lo, .int .i64 x.n.n, .int .i64 x.t]) ∧ Below W.heap.size W w' := by have k := joinB_any x y W; rwa [HJ.out] at k
      exact hc.mono fun e w' ⟨he, hb⟩ => ⟨he, IN _ (low_trans hs hb)⟩
    have K7 : Hid (∀ W, S12x x y l w w1 w2 wc W → Calls Tryz.prog 13 #[.agg #[.bool x.n.a.v6, .int .u64 x.n.a.hi, .int .u64 x.n.a.lo, .int .i64 x.n.n, .int .i64 x.t]] W fun e w' => e = .returned (.string ⟨(textB x).toArray⟩) ∧ S12x x y l w w1 w2 wc w') := Lib.hid fun W h => by
      have hs := h.2.2.2.2.2.2.2.2.2.2.2.2.2.2.2.2.2.2.2.2.2.2.2.2.2
      have hc : Calls Tryz.prog 13 #[.agg #[.bool x.n.a.v6, .int .u64 x.n.a.hi, .int .u64 x.n.a.lo, .int .i64 x.n.n, .int .i64 x.t]] W fun e w' => e = .returned (.string ⟨(textB x).toArray⟩) ∧ Below W.heap.size W w' := textB_any x W hx
      exact hc.mono fun e w' ⟨he, hb⟩ => ⟨he, IN _ (low_trans hs hb)⟩
    have K8 : Hid (∀ W, S12x x y l w w1 w2 wc W → Calls Tryz.prog 14 #[.agg #[.bool x.n.a.v6, .int .u64 x.n.a.hi, .int .u64 x.n.a.lo, .int .i64 x.n.n, .int .i64 x.t]] W fun e w' => e = .returned (.string ⟨(textB x).toArray⟩) ∧ S12x x y l w w1 w2 wc w') := Lib.hid fun W h => by
      have hs := h.2.2.2.2.2.2.2.2.2.2.2.2.2.2.2.2.2.2.2.2.2.2.2.2.2
      have hc : Calls Tryz.prog 14 #[.agg #[.bool x.n.a.v6, .int .u64 x.n.a.hi, .int .u64 x.n.a.lo, .int .i64 x.n.n, .int .i64 x.t]] W fun e w' => e = .returned (.string ⟨(textB x).toArray⟩) ∧ Below W.heap.size W w' := rtextB_any x W hx
      exact hc.mono fun e w' ⟨he, hb⟩ => ⟨he, IN _ (low_trans hs hb)⟩
    have K9 : Hid (∀ W, S12x x y l w w1 w2 wc W → Calls Tryz.prog 4 #[] W fun e w' => e = .returned (.bool true) ∧ S12x x y l w w1 w2 wc w') := Lib.hid fun W h => by
      have hs := h.2.2.2.2.2.2.2.2.2.2.2.2.2.2.2.2.2.2.2.2.2.2.2.2.2
      have hc : Calls Tryz.prog 4 #[] W fun e w' => e = .returned (.bool true) ∧ Below W.heap.size W w' := awake12_any W (hL5.below hs)
      exact hc.mono fun e w' ⟨he, hb⟩ => ⟨he, IN _ (low_trans hs hb)⟩
    have hk0 : S12x x y l w w1 w2 wc wc := IN _ (Below.refl _ _)
    clear d0 d1 d2 d3 d4 d5 d6 d7 d8 d9 d10 d11 d12 d13 d14 d15 d16 d17 d18 d19 d20 d21 d22 d23 d24
    have hne : Nonempty (Cls (S12x x y l w w1 w2 wc)) := ⟨⟨_, hk0⟩⟩
    have f0 : ∀ q : Cls (S12x x y l w w1 w2 wc), q.w.cell? ⟨w.heap.size, 0, none⟩ = some (.bool x.n.a.v6) := fun q => q.h.1
    have f1 : ∀ q : Cls (S12x x y l w w1 w2 wc), q.w.cell? ⟨w.heap.size, 1, none⟩ = some (.int .u64 x.n.a.hi) := fun q => q.h.2.1
    have f2 : ∀ q : Cls (S12x x y l w w1 w2 wc), q.w.cell? ⟨w.heap.size, 2, none⟩ = some (.int .u64 x.n.a.lo) := fun q => q.h.2.2.1
    have f3 : ∀ q : Cls (S12x x y l w w1 w2 wc), q.w.cell? ⟨w.heap.size, 3, none⟩ = some (.int .i64 x.n.n) := fun q => q.h.2.2.2.1
    have f4 : ∀ q : Cls (S12x x y l w w1 w2 wc), q.w.cell? ⟨w.heap.size, 4, none⟩ = some (.int .i64 x.t) := fun q => q.h.2.2.2.2.1
    have f5 : ∀ q : Cls (S12x x y l w w1 w2 wc), q.w.cell? ⟨w.heap.size + 1, 0, none⟩ = some (.bool y.n.a.v6) := fun q => q.h.2.2.2.2.2.1
    have f6 : ∀ q : Cls (S12x x y l w w1 w2 wc), q.w.cell? ⟨w.heap.size + 1, 1, none⟩ = some (.int .u64 y.n.a.hi) := fun q => q.h.2.2.2.2.2.2.1
    have f7 : ∀ q : Cls (S12x x y l w w1 w2 wc), q.w.cell? ⟨w.heap.size + 1, 2, none⟩ = some (.int .u64 y.n.a.lo) := fun q => q.h.2.2.2.2.2.2.2.1
    have f8 : ∀ q : Cls (S12x x y l w w1 w2 wc), q.w.cell? ⟨w.heap.size + 1, 3, none⟩ = some (.int .i64 y.n.n) := fun q => q.h.2.2.2.2.2.2.2.2.1
    have f9 : ∀ q : Cls (S12x x y l w w1 w2 wc), q.w.cell? ⟨w.heap.size + 1, 4, none⟩ = some (.int .i64 y.t) := fun q => q.h.2.2.2.2.2.2.2.2.2.1
    have f10 : ∀ q : Cls (S12x x y l w w1 w2 wc), q.w.cell? ⟨w1.heap.size, 0, none⟩ = some (.bool (parseB l).n.a.v6) := fun q => q.h.2.2.2.2.2.2.2.2.2.2.1
    have f11 : ∀ q : Cls (S12x x y l w w1 w2 wc), q.w.cell? ⟨w1.heap.size, 1, none⟩ = some (.int .u64 (parseB l).n.a.hi) := fun q => q.h.2.2.2.2.2.2.2.2.2.2.2.1
    have f12 : ∀ q : Cls (S12x x y l w w1 w2 wc), q.w.cell? ⟨w1.heap.size, 2, none⟩ = some (.int .u64 (parseB l).n.a.lo) := fun q => q.h.2.2.2.2.2.2.2.2.2.2.2.2.1
    have f13 : ∀ q : Cls (S12x x y l w w1 w2 wc), q.w.cell? ⟨w1.heap.size, 3, none⟩ = some (.int .i64 (parseB l).n.n) := fun q => q.h.2.2.2.2.2.2.2.2.2.2.2.2.2.1
    have f14 : ∀ q : Cls (S12x x y l w w1 w2 wc), q.w.cell? ⟨w1.heap.size, 4, none⟩ = some (.int .i64 (parseB l).t) := fun q => q.h.2.2.2.2.2.2.2.2.2.2.2.2.2.2.1
    have f15 : ∀ q : Cls (S12x x y l w w1 w2 wc), q.w.cell? ⟨w2.heap.size, 0, none⟩ = some (.bool (parseB l).n.a.v6) := fun q => q.h.2.2.2.2.2.2.2.2.2.2.2.2.2.2.2.1
    have f16 : ∀ q : Cls (S12x x y l w w1 w2 wc), q.w.cell? ⟨w2.heap.size, 1, none⟩ = some (.int .u64 (parseB l).n.a.hi) := fun q => q.h.2.2.2.2.2.2.2.2.2.2.2.2.2.2.2.2.1
    have f17 : ∀ q : Cls (S12x x y l w w1 w2 wc), q.w.cell? ⟨w2.heap.size, 2, none⟩ = some (.int .u64 (parseB l).n.a.lo) := fun q => q.h.2.2.2.2.2.2.2.2.2.2.2.2.2.2.2.2.2.1
    have f18 : ∀ q : Cls (S12x x y l w w1 w2 wc), q.w.cell? ⟨w2.heap.size, 3, none⟩ = some (.int .i64 (parseB l).n.n) := fun q => q.h.2.2.2.2.2.2.2.2.2.2.2.2.2.2.2.2.2.2.1
    have f19 : ∀ q : Cls (S12x x y l w w1 w2 wc), q.w.cell? ⟨w2.heap.size, 4, none⟩ = some (.int .i64 (parseB l).t) := fun q => q.h.2.2.2.2.2.2.2.2.2.2.2.2.2.2.2.2.2.2.2.1
    have f20 : ∀ q : Cls (S12x x y l w w1 w2 wc), q.w.cell? ⟨w2.heap.size + 1, 0, none⟩ = some (.bool x.n.a.v6) := fun q => q.h.2.2.2.2.2.2.2.2.2.2.2.2.2.2.2.2.2.2.2.2.1
    have f21 : ∀ q : Cls (S12x x y l w w1 w2 wc), q.w.cell? ⟨w2.heap.size + 1, 1, none⟩ = some (.int .u64 x.n.a.hi) := fun q => q.h.2.2.2.2.2.2.2.2.2.2.2.2.2.2.2.2.2.2.2.2.2.1
    have f22 : ∀ q : Cls (S12x x y l w w1 w2 wc), q.w.cell? ⟨w2.heap.size + 1, 2, none⟩ = some (.int .u64 x.n.a.lo) := fun q => q.h.2.2.2.2.2.2.2.2.2.2.2.2.2.2.2.2.2.2.2.2.2.2.1
    have f23 : ∀ q : Cls (S12x x y l w w1 w2 wc), q.w.cell? ⟨w2.heap.size + 1, 3, none⟩ = some (.int .i64 x.n.n) := fun q => q.h.2.2.2.2.2.2.2.2.2.2.2.2.2.2.2.2.2.2.2.2.2.2.2.1
    have f24 : ∀ q : Cls (S12x x y l w w1 w2 wc), q.w.cell? ⟨w2.heap.size + 1, 4, none⟩ = some (.int .i64 x.t) := fun q => q.h.2.2.2.2.2.2.2.2.2.2.2.2.2.2.2.2.2.2.2.2.2.2.2.2.1
    refine Cls.region (S12x x y l w w1 w2 wc) (by kernel_rfl) (by kernel_rfl) (IN _ (low_drewN hk0.2.2.2.2.2.2.2.2.2.2.2.2.2.2.2.2.2.2.2.2.2.2.2.2.2 1)) ?_
    repeat (go_big_quiet_step (first | (with_reducible exact Cls.call (K1.out _ (Cls.h _))) | (with_reducible exact Cls.call (K2.out _ (Cls.h _))) | (with_reducible exact Cls.call (K3.out _ (Cls.h _))) | (with_reducible exact Cls.call (K4.out _ (Cls.h _))) | (with_reducible exact Cls.call (K5.out _ (Cls.h _))) | (with_reducible exact Cls.call (K6.out _ (Cls.h _))) | (with_reducible exact Cls.call (K7.out _ (Cls.h _))) | (with_reducible exact Cls.call (K8.out _ (Cls.h _))) | (with_reducible exact Cls.call (K9.out _ (Cls.h _)))))
    refine wpQuiet_nil ?_
    intro n9
    have hk9 := n9.h
    generalize n9.w = w9 at hk9 ⊢
    clear hne n9 f0 f1 f2 f3 f4 f5 f6 f7 f8 f9 f10 f11 f12 f13 f14 f15 f16 f17 f18 f19 f20 f21 f22 f23 f24
    go_wp2_with fail
    go_ret
    exact ⟨rfl, hlow.trans (hk9.2.2.2.2.2.2.2.2.2.2.2.2.2.2.2.2.2.2.2.2.2.2.2.2.2.mono hlow.size)⟩
set_option maxHeartbeats 32000000 in
theorem btells_more (w : World) (x : Ban) (hx : x.ok) (y : Ban) (hy : y.ok) (l : List UInt8) (hl : l.length ≤ 1000) (hL : Lens w) (hq : sameN x.n y.n = true) (hg : x.t < y.t) :
    Calls Tryz.prog 3 #[.agg #[.bool x.n.a.v6, .int .u64 x.n.a.hi, .int .u64 x.n.a.lo, .int .i64 x.n.n, .int .i64 x.t], .agg #[.bool y.n.a.v6, .int .u64 y.n.a.hi, .int .u64 y.n.a.lo, .int .i64 y.n.n, .int .i64 y.t], .string ⟨l.toArray⟩] w fun e w' => e = .returned (.bool true) ∧ Below w.heap.size w w' := by
  have hB2 : Below w.heap.size w ((w.alloc (.cells #[.bool x.n.a.v6, .int .u64 x.n.a.hi, .int .u64 x.n.a.lo, .int .i64 x.n.n, .int .i64 x.t] 28)).alloc (.cells #[.bool y.n.a.v6, .int .u64 y.n.a.hi, .int .u64 y.n.a.lo, .int .i64 y.n.n, .int .i64 y.t] 28)) := ((Below.refl _ _).alloc (Nat.le_refl _) _).alloc (by simp) _
  have hL0 := hL.below hB2
  have EN : ∀ W, (binOp .eql 26 (.agg #[.bool x.n.a.v6, .int .u64 x.n.a.hi, .int .u64 x.n.a.lo, .int .i64 x.n.n]) (.agg #[.bool y.n.a.v6, .int .u64 y.n.a.hi, .int .u64 y.n.a.lo, .int .i64 y.n.n])).run Tryz.prog W = .ok (.bool true) W := fun W => by rw [eqNet, hq]
  have EJ : ∀ W, (binOp .eql 28 (.agg #[.bool y.n.a.v6, .int .u64 y.n.a.hi, .int .u64 y.n.a.lo, .int .i64 y.n.n, .int .i64 y.t]) (.agg #[.bool y.n.a.v6, .int .u64 y.n.a.hi, .int .u64 y.n.a.lo, .int .i64 y.n.n, .int .i64 y.t])).run Tryz.prog W = .ok (.bool true) W := fun W => by rw [eqBan, sameB_self]
  have EP : ∀ W, (binOp .eql 28 (.agg #[.bool (parseB l).n.a.v6, .int .u64 (parseB l).n.a.hi, .int .u64 (parseB l).n.a.lo, .int .i64 (parseB l).n.n, .int .i64 (parseB l).t]) (.agg #[.bool (parseB l).n.a.v6, .int .u64 (parseB l).n.a.hi, .int .u64 (parseB l).n.a.lo, .int .i64 (parseB l).n.n, .int .i64 (parseB l).t])).run Tryz.prog W = .ok (.bool true) W := fun W => by rw [eqBan, sameB_self]
  have HJ : Hid (joinB x y = y) := Lib.hid (by unfold joinB; rw [hq]; simp [hg])
  clear hq
  obtain ⟨cl, hcl⟩ : ∃ cl, decide (y.t < x.t) = cl := ⟨_, rfl⟩
  go_enter Tryz.func3, Tryz.ntmps3
  go_wp2_with fail
  refine (parseB_any l _ (by omega) hL0).mono ?_
  rintro e w1 ⟨rfl, hb1⟩
  have hL1 := hL0.below hb1
  go_wp2_with fail
  refine (rparseB_any l _ (by omega)).mono ?_
  rintro e w2 ⟨rfl, hb2⟩
  have hs1 : Stays (w1.alloc (.cells #[.bool (parseB l).n.a.v6, .int .u64 (parseB l).n.a.hi, .int .u64 (parseB l).n.a.lo, .int .i64 (parseB l).n.n, .int .i64 (parseB l).t] 28)) w2 := hb2
  have hs0 : Stays ((w.alloc (.cells #[.bool x.n.a.v6, .int .u64 x.n.a.hi, .int .u64 x.n.a.lo, .int .i64 x.n.n, .int .i64 x.t] 28)).alloc (.cells #[.bool y.n.a.v6, .int .u64 y.n.a.hi, .int .u64 y.n.a.lo, .int .i64 y.n.n, .int .i64 y.t] 28)) w2 := low_trans hb1 (low_trans ((Below.refl _ _).alloc (Nat.le_refl _) _) hs1)
  have z1 : w.heap.size + 2 ≤ w1.heap.size := by have := hb1.size; simpa using this
  have z2 : w1.heap.size + 1 ≤ w2.heap.size := by have := hb2.size; simpa using this
  have u0 : w2.cell? ⟨w.heap.size, 0, none⟩ = some (.bool x.n.a.v6) := Ci.cells_left hs0 (Ci.cells_left ((Below.refl _ _).alloc (Nat.le_refl _) _) (cell_at _ _ _ 0 _ rfl))
  have u1 : w2.cell? ⟨w.heap.size, 1, none⟩ = some (.int .u64 x.n.a.hi) := Ci.cells_left hs0 (Ci.cells_left ((Below.refl _ _).alloc (Nat.le_refl _) _) (cell_at _ _ _ 1 _ rfl))
  have u2 : w2.cell? ⟨w.heap.size, 2, none⟩ = some (.int .u64 x.n.a.lo) := Ci.cells_left hs0 (Ci.cells_left ((Below.refl _ _).alloc (Nat.le_refl _) _) (cell_at _ _ _ 2 _ rfl))
  have u3 : w2.cell? ⟨w.heap.size, 3, none⟩ = some (.int .i64 x.n.n) := Ci.cells_left hs0 (Ci.cells_left ((Below.refl _ _).alloc (Nat.le_refl _) _) (cell_at _ _ _ 3 _ rfl))
  have u4 : w2.cell? ⟨w.heap.size, 4, none⟩ = some (.int .i64 x.t) := Ci.cells_left hs0 (Ci.cells_left ((Below.refl _ _).alloc (Nat.le_refl _) _) (cell_at _ _ _ 4 _ rfl))
  have v0 : w2.cell? ⟨w.heap.size + 1, 0, none⟩ = some (.bool y.n.a.v6) := Ci.cells_left hs0 (by have k := cell_at (w.alloc (.cells #[.bool x.n.a.v6, .int .u64 x.n.a.hi, .int .u64 x.n.a.lo, .int .i64 x.n.n, .int .i64 x.t] 28)) #[.bool y.n.a.v6, .int .u64 y.n.a.hi, .int .u64 y.n.a.lo, .int .i64 y.n.n, .int .i64 y.t] 28 0 _ rfl; rwa [show (w.alloc (.cells #[.bool x.n.a.v6, .int .u64 x.n.a.hi, .int .u64 x.n.a.lo, .int .i64 x.n.n, .int .i64 x.t] 28)).heap.size = w.heap.size + 1 by simp] at k)
  have v1 : w2.cell? ⟨w.heap.size + 1, 1, none⟩ = some (.int .u64 y.n.a.hi) := Ci.cells_left hs0 (by have k := cell_at (w.alloc (.cells #[.bool x.n.a.v6, .int .u64 x.n.a.hi, .int .u64 x.n.a.lo, .int .i64 x.n.n, .int .i64 x.t] 28)) #[.bool y.n.a.v6, .int .u64 y.n.a.hi, .int .u64 y.n.a.lo, .int .i64 y.n.n, .int .i64 y.t] 28 1 _ rfl; rwa [show (w.alloc (.cells #[.bool x.n.a.v6, .int .u64 x.n.a.hi, .int .u64 x.n.a.lo, .int .i64 x.n.n, .int .i64 x.t] 28)).heap.size = w.heap.size + 1 by simp] at k)
  have v2 : w2.cell? ⟨w.heap.size + 1, 2, none⟩ = some (.int .u64 y.n.a.lo) := Ci.cells_left hs0 (by have k := cell_at (w.alloc (.cells #[.bool x.n.a.v6, .int .u64 x.n.a.hi, .int .u64 x.n.a.lo, .int .i64 x.n.n, .int .i64 x.t] 28)) #[.bool y.n.a.v6, .int .u64 y.n.a.hi, .int .u64 y.n.a.lo, .int .i64 y.n.n, .int .i64 y.t] 28 2 _ rfl; rwa [show (w.alloc (.cells #[.bool x.n.a.v6, .int .u64 x.n.a.hi, .int .u64 x.n.a.lo, .int .i64 x.n.n, .int .i64 x.t] 28)).heap.size = w.heap.size + 1 by simp] at k)
  have v3 : w2.cell? ⟨w.heap.size + 1, 3, none⟩ = some (.int .i64 y.n.n) := Ci.cells_left hs0 (by have k := cell_at (w.alloc (.cells #[.bool x.n.a.v6, .int .u64 x.n.a.hi, .int .u64 x.n.a.lo, .int .i64 x.n.n, .int .i64 x.t] 28)) #[.bool y.n.a.v6, .int .u64 y.n.a.hi, .int .u64 y.n.a.lo, .int .i64 y.n.n, .int .i64 y.t] 28 3 _ rfl; rwa [show (w.alloc (.cells #[.bool x.n.a.v6, .int .u64 x.n.a.hi, .int .u64 x.n.a.lo, .int .i64 x.n.n, .int .i64 x.t] 28)).heap.size = w.heap.size + 1 by simp] at k)
  have v4 : w2.cell? ⟨w.heap.size + 1, 4, none⟩ = some (.int .i64 y.t) := Ci.cells_left hs0 (by have k := cell_at (w.alloc (.cells #[.bool x.n.a.v6, .int .u64 x.n.a.hi, .int .u64 x.n.a.lo, .int .i64 x.n.n, .int .i64 x.t] 28)) #[.bool y.n.a.v6, .int .u64 y.n.a.hi, .int .u64 y.n.a.lo, .int .i64 y.n.n, .int .i64 y.t] 28 4 _ rfl; rwa [show (w.alloc (.cells #[.bool x.n.a.v6, .int .u64 x.n.a.hi, .int .u64 x.n.a.lo, .int .i64 x.n.n, .int .i64 x.t] 28)).heap.size = w.heap.size + 1 by simp] at k)
  have p0 : w2.cell? ⟨w1.heap.size, 0, none⟩ = some (.bool (parseB l).n.a.v6) := Ci.cells_left hs1 (cell_at _ _ _ 0 _ rfl)
  have p1 : w2.cell? ⟨w1.heap.size, 1, none⟩ = some (.int .u64 (parseB l).n.a.hi) := Ci.cells_left hs1 (cell_at _ _ _ 1 _ rfl)
  have p2 : w2.cell? ⟨w1.heap.size, 2, none⟩ = some (.int .u64 (parseB l).n.a.lo) := Ci.cells_left hs1 (cell_at _ _ _ 2 _ rfl)
  have p3 : w2.cell? ⟨w1.heap.size, 3, none⟩ = some (.int .i64 (parseB l).n.n) := Ci.cells_left hs1 (cell_at _ _ _ 3 _ rfl)
  have p4 : w2.cell? ⟨w1.heap.size, 4, none⟩ = some (.int .i64 (parseB l).t) := Ci.cells_left hs1 (cell_at _ _ _ 4 _ rfl)
  have hLow2 : Below w.heap.size w w2 := hB2.trans (hs0.mono (by simp; omega))
  have y0 : w.heap.size < w2.heap.size := by omega
  have y1 : w.heap.size + 1 < w2.heap.size := by omega
  have y2 : w1.heap.size < w2.heap.size := by omega
  go_upto_region 8 with fail
  refine Ci.swap (P := fun wc => Code.wp _ _ _ _ wc) (R := fun wx => wx.cell? ⟨w.heap.size, 0, none⟩ = some (.bool x.n.a.v6) ∧ wx.cell? ⟨w.heap.size, 1, none⟩ = some (.int .u64 x.n.a.hi) ∧ wx.cell? ⟨w.heap.size, 2, none⟩ = some (.int .u64 x.n.a.lo) ∧ wx.cell? ⟨w.heap.size, 3, none⟩ = some (.int .i64 x.n.n) ∧ wx.cell? ⟨w.heap.size, 4, none⟩ = some (.int .i64 x.t) ∧ wx.cell? ⟨w.heap.size + 1, 0, none⟩ = some (.bool y.n.a.v6) ∧ wx.cell? ⟨w.heap.size + 1, 1, none⟩ = some (.int .u64 y.n.a.hi) ∧ wx.cell? ⟨w.heap.size + 1, 2, none⟩ = some (.int .u64 y.n.a.lo) ∧ wx.cell? ⟨w.heap.size + 1, 3, none⟩ = some (.int .i64 y.n.n) ∧ wx.cell? ⟨w.heap.size + 1, 4, none⟩ = some (.int .i64 y.t) ∧ wx.cell? ⟨w1.heap.size, 0, none⟩ = some (.bool (parseB l).n.a.v6) ∧ wx.cell? ⟨w1.heap.size, 1, none⟩ = some (.int .u64 (parseB l).n.a.hi) ∧ wx.cell? ⟨w1.heap.size, 2, none⟩ = some (.int .u64 (parseB l).n.a.lo) ∧ wx.cell? ⟨w1.heap.size, 3, none⟩ = some (.int .i64 (parseB l).n.n) ∧ wx.cell? ⟨w1.heap.size, 4, none⟩ = some (.int .i64 (parseB l).t) ∧ wx.cell? ⟨w2.heap.size, 0, none⟩ = some (.bool (parseB l).n.a.v6) ∧ wx.cell? ⟨w2.heap.size, 1, none⟩ = some (.int .u64 (parseB l).n.a.hi) ∧ wx.cell? ⟨w2.heap.size, 2, none⟩ = some (.int .u64 (parseB l).n.a.lo) ∧ wx.cell? ⟨w2.heap.size, 3, none⟩ = some (.int .i64 (parseB l).n.n) ∧ wx.cell? ⟨w2.heap.size, 4, none⟩ = some (.int .i64 (parseB l).t) ∧ wx.cell? ⟨w2.heap.size + 1, 0, none⟩ = some (.bool y.n.a.v6) ∧ wx.cell? ⟨w2.heap.size + 1, 1, none⟩ = some (.int .u64 y.n.a.hi) ∧ wx.cell? ⟨w2.heap.size + 1, 2, none⟩ = some (.int .u64 y.n.a.lo) ∧ wx.cell? ⟨w2.heap.size + 1, 3, none⟩ = some (.int .i64 y.n.n) ∧ wx.cell? ⟨w2.heap.size + 1, 4, none⟩ = some (.int .i64 y.t) ∧ Below w.heap.size w wx) ?first ?rest
  case first =>
    refine ⟨?_, ?_, ?_, ?_, ?_, ?_, ?_, ?_, ?_, ?_, ?_, ?_, ?_, ?_, ?_, ?_, ?_, ?_, ?_, ?_, ?_, ?_, ?_, ?_, ?_, ?_⟩
    all_goals first | (simp [go_sem, *]; done) | repeat (first | (with_reducible exact hLow2) | (with_reducible refine Below.setCell ?_ (by first | (simp; done) | (simp; omega) | omega) _) | (with_reducible refine Below.alloc ?_ (by first | (simp; done) | (simp; omega) | omega) _))
  case rest =>
    intro wc hcut
    obtain ⟨d0, d1, d2, d3, d4, d5, d6, d7, d8, d9, d10, d11, d12, d13, d14, d15, d16, d17, d18, d19, d20, d21, d22, d23, d24, hlow⟩ := hcut
    clear u0 u1 u2 u3 u4 v0 v1 v2 v3 v4 p0 p1 p2 p3 p4 hs0 hs1 hb1 hb2 y0 y1 y2 z1 z2
    have hL5 := hL.below hlow
    have IN : ∀ w', Stays wc w' → S12y x y l w w1 w2 wc w' := fun w' h => ⟨Ci.cells_left h d0, Ci.cells_left h d1, Ci.cells_left h d2, Ci.cells_left h d3, Ci.cells_left h d4, Ci.cells_left h d5, Ci.cells_left h d6, Ci.cells_left h d7, Ci.cells_left h d8, Ci.cells_left h d9, Ci.cells_left h d10, Ci.cells_left h d11, Ci.cells_left h d12, Ci.cells_left h d13, Ci.cells_left h d14, Ci.cells_left h d15, Ci.cells_left h d16, Ci.cells_left h d17, Ci.cells_left h d18, Ci.cells_left h d19, Ci.cells_left h d20, Ci.cells_left h d21, Ci.cells_left h d22, Ci.cells_left h d23, Ci.cells_left h d24, h⟩
    have K1 : Hid (∀ W, S12y x y l w w1 w2 wc W → Calls Tryz.prog 7 #[.agg #[.bool x.n.a.v6, .int .u64 x.n.a.hi, .int .u64 x.n.a.lo, .int .i64 x.n.n, .int .i64 x.t]] W fun e w' => e = .returned (.bool (rightB x)) ∧ S12y x y l w w1 w2 wc w') := Lib.hid fun W h => by
      have hs := h.2.2.2.2.2.2.2.2.2.2.2.2.2.2.2.2.2.2.2.2.2.2.2.2.2
      have hc : Calls Tryz.prog 7 #[.agg #[.bool x.n.a.v6, .int .u64 x.n.a.hi, .int .u64 x.n.a.lo, .int .i64 x.n.n, .int .i64 x.t]] W fun e w' => e = .returned (.bool (rightB x)) ∧ Below W.heap.size W w' := rightB_any x W hx
      exact hc.mono fun e w' ⟨he, hb⟩ => ⟨he, IN _ (low_trans hs hb)⟩
    have K2 : Hid (∀ W, S12y x y l w w1 w2 wc W → Calls Tryz.prog 8 #[.agg #[.bool x.n.a.v6, .int .u64 x.n.a.hi, .int .u64 x.n.a.lo, .int .i64 x.n.n, .int .i64 x.t]] W fun e w' => e = .returned (.bool (rightB x)) ∧ S12y x y l w w1 w2 wc w') := Lib.hid fun W h => by
      have hs := h.2.2.2.2.2.2.2.2.2.2.2.2.2.2.2.2.2.2.2.2.2.2.2.2.2
      have hc : Calls Tryz.prog 8 #[.agg #[.bool x.n.a.v6, .int .u64 x.n.a.hi, .int .u64 x.n.a.lo, .int .i64 x.n.n, .int .i64 x.t]] W fun e w' => e = .returned (.bool (rightB x)) ∧ Below W.heap.size W w' := rrightB_any x W hx
      exact hc.mono fun e w' ⟨he, hb⟩ => ⟨he, IN _ (low_trans hs hb)⟩
    have K3 : Hid (∀ W, S12y x y l w w1 w2 wc W → Calls Tryz.prog 9 #[.agg #[.bool x.n.a.v6, .int .u64 x.n.a.hi, .int .u64 x.n.a.lo, .int .i64 x.n.n, .int .i64 x.t], .int .i64 y.t] W fun e w' => e = .returned (.bool cl) ∧ S12y x y l w w1 w2 wc w') := Lib.hid fun W h => by
      have hs := h.2.2.2.2.2.2.2.2.2.2.2.2.2.2.2.2.2.2.2.2.2.2.2.2.2
      have hc : Calls Tryz.prog 9 #[.agg #[.bool x.n.a.v6, .int .u64 x.n.a.hi, .int .u64 x.n.a.lo, .int .i64 x.n.n, .int .i64 x.t], .int .i64 y.t] W fun e w' => e = .returned (.bool cl) ∧ Below W.heap.size W w' := by rw [← hcl]; exact livesB_any x y.t W
      exact hc.mono fun e w' ⟨he, hb⟩ => ⟨he, IN _ (low_trans hs hb)⟩
    have K4 : Hid (∀ W, S12y x y l w w1 w2 wc W → Calls Tryz.prog 10 #[.agg #[.bool x.n.a.v6, .int .u64 x.n.a.hi, .int .u64 x.n.a.lo, .int .i64 x.n.n, .int .i64 x.t], .agg #[.bool y.n.a.v6, .int .u64 y.n.a.hi, .int .u64 y.n.a.lo], .int .i64 y.t] W fun e w' => e = .returned (.bool (hitsB x y.n.a y.t)) ∧ S12y x y l w w1 w2 wc w') := Lib.hid fun W h => by
      have hs := h.2.2.2.2.2.2.2.2.2.2.2.2.2.2.2.2.2.2.2.2.2.2.2.2.2
      have hc : Calls Tryz.prog 10 #[.agg #[.bool x.n.a.v6, .int .u64 x.n.a.hi, .int .u64 x.n.a.lo, .int .i64 x.n.n, .int .i64 x.t], .agg #[.bool y.n.a.v6, .int .u64 y.n.a.hi, .int .u64 y.n.a.lo], .int .i64 y.t] W fun e w' => e = .returned (.bool (hitsB x y.n.a y.t)) ∧ Below W.heap.size W w' := hitsB_any x y.n.a y.t W hx hy.1.1
      exact hc.mono fun e w' ⟨he, hb⟩ => ⟨he, IN _ (low_trans hs hb)⟩
    have K5 : Hid (∀ W, S12y x y l w w1 w2 wc W → Calls Tryz.prog 11 #[.agg #[.bool x.n.a.v6, .int .u64 x.n.a.hi, .int .u64 x.n.a.lo, .int .i64 x.n.n, .int .i64 x.t], .agg #[.bool y.n.a.v6, .int .u64 y.n.a.hi, .int .u64 y.n.a.lo], .int .i64 y.t] W fun e w' => e = .returned (.bool (hitsB x y.n.a y.t)) ∧ S12y x y l w w1 w2 wc w') := Lib.hid fun W h => by
      have hs := h.2.2.2.2.2.2.2.2.2.2.2.2.2.2.2.2.2.2.2.2.2.2.2.2.2
      have hc : Calls Tryz.prog 11 #[.agg #[.bool x.n.a.v6, .int .u64 x.n.a.hi, .int .u64 x.n.a.lo, .int .i64 x.n.n, .int .i64 x.t], .agg #[.bool y.n.a.v6, .int .u64 y.n.a.hi, .int .u64 y.n.a.lo], .int .i64 y.t] W fun e w' => e = .returned (.bool (hitsB x y.n.a y.t)) ∧ Below W.heap.size W w' := rhitsB_any x y.n.a y.t W hx hy.1.1
      exact hc.mono fun e w' ⟨he, hb⟩ => ⟨he, IN _ (low_trans hs hb)⟩
    have K6 : Hid (∀ W, S12y x y l w w1 w2 wc W → Calls Tryz.prog 12 #[.agg #[.bool x.n.a.v6, .int .u64 x.n.a.hi, .int .u64 x.n.a.lo, .int .i64 x.n.n, .int .i64 x.t], .agg #[.bool y.n.a.v6, .int .u64 y.n.a.hi, .int .u64 y.n.a.lo, .int .i64 y.n.n, .int .i64 y.t]] W fun e w' => e = .returned (.agg #[.bool y.n.a.v6, .int .u64 y.n.a.hi, .int .u64 y.n.a.lo, .int .i64 y.n.n, .int .i64 y.t]) ∧ S12y x y l w w1 w2 wc w') := Lib.hid fun W h => by
      have hs := h.2.2.2.2.2.2.2.2.2.2.2.2.2.2.2.2.2.2.2.2.2.2.2.2.2
      have hc : Calls Tryz.prog 12 #[.agg #[.bool x.n.a.v6, .int .u64 x.n.a.hi, .int .u64 x.n.a.lo, .int .i64 x.n.n, .int .i64 x.t], .agg #[.bool y.n.a.v6, .int .u64 y.n.a.hi, .int .u64 y.n.a.lo, .int .i64 y.n.n, .int .i64 y.t]] W fun e w' => e = .returned (.agg #[.bool y.n.a.v6, .int .u64 y.n.a.hi, .int .u64 y.n.a.lo, .int .i64 y.n.n, .int .i64 y.t]) ∧ Below W.heap.size W w' := by have k := joinB_any x y W; rwa [HJ.out] at k
      exact hc.mono fun e w' ⟨he, hb⟩ => ⟨he, IN _ (low_trans hs hb)⟩
    have K7 : Hid (∀ W, S12y x y l w w1 w2 wc W → Calls Tryz.prog 13 #[.agg #[.bool x.n.a.v6, .int .u64 x.n.a.hi, .int .u64 x.n.a.lo, .int .i64 x.n.n, .int .i64 x.t]] W fun e w' => e = .returned (.string ⟨(textB x).toArray⟩) ∧ S12y x y l w w1 w2 wc w') := Lib.hid fun W h => by
      have hs := h.2.2.2.2.2.2.2.2.2.2.2.2.2.2.2.2.2.2.2.2.2.2.2.2.2
      have hc : Calls Tryz.prog 13 #[.agg #[.bool x.n.a.v6, .int .u64 x.n.a.hi, .int .u64 x.n.a.lo, .int .i64 x.n.n, .int .i64 x.t]] W fun e w' => e = .returned (.string ⟨(textB x).toArray⟩) ∧ Below W.heap.size W w' := textB_any x W hx
      exact hc.mono fun e w' ⟨he, hb⟩ => ⟨he, IN _ (low_trans hs hb)⟩
    have K8 : Hid (∀ W, S12y x y l w w1 w2 wc W → Calls Tryz.prog 14 #[.agg #[.bool x.n.a.v6, .int .u64 x.n.a.hi, .int .u64 x.n.a.lo, .int .i64 x.n.n, .int .i64 x.t]] W fun e w' => e = .returned (.string ⟨(textB x).toArray⟩) ∧ S12y x y l w w1 w2 wc w') := Lib.hid fun W h => by
      have hs := h.2.2.2.2.2.2.2.2.2.2.2.2.2.2.2.2.2.2.2.2.2.2.2.2.2
      have hc : Calls Tryz.prog 14 #[.agg #[.bool x.n.a.v6, .int .u64 x.n.a.hi, .int .u64 x.n.a.lo, .int .i64 x.n.n, .int .i64 x.t]] W fun e w' => e = .returned (.string ⟨(textB x).toArray⟩) ∧ Below W.heap.size W w' := rtextB_any x W hx
      exact hc.mono fun e w' ⟨he, hb⟩ => ⟨he, IN _ (low_trans hs hb)⟩
    have K9 : Hid (∀ W, S12y x y l w w1 w2 wc W → Calls Tryz.prog 4 #[] W fun e w' => e = .returned (.bool true) ∧ S12y x y l w w1 w2 wc w') := Lib.hid fun W h => by
      have hs := h.2.2.2.2.2.2.2.2.2.2.2.2.2.2.2.2.2.2.2.2.2.2.2.2.2
      have hc : Calls Tryz.prog 4 #[] W fun e w' => e = .returned (.bool true) ∧ Below W.heap.size W w' := awake12_any W (hL5.below hs)
      exact hc.mono fun e w' ⟨he, hb⟩ => ⟨he, IN _ (low_trans hs hb)⟩
    have hk0 : S12y x y l w w1 w2 wc wc := IN _ (Below.refl _ _)
    clear d0 d1 d2 d3 d4 d5 d6 d7 d8 d9 d10 d11 d12 d13 d14 d15 d16 d17 d18 d19 d20 d21 d22 d23 d24
    have hne : Nonempty (Cls (S12y x y l w w1 w2 wc)) := ⟨⟨_, hk0⟩⟩
    have f0 : ∀ q : Cls (S12y x y l w w1 w2 wc), q.w.cell? ⟨w.heap.size, 0, none⟩ = some (.bool x.n.a.v6) := fun q => q.h.1
    have f1 : ∀ q : Cls (S12y x y l w w1 w2 wc), q.w.cell? ⟨w.heap.size, 1, none⟩ = some (.int .u64 x.n.a.hi) := fun q => q.h.2.1
    have f2 : ∀ q : Cls (S12y x y l w w1 w2 wc), q.w.cell? ⟨w.heap.size, 2, none⟩ = some (.int .u64 x.n.a.lo) := fun q => q.h.2.2.1
    have f3 : ∀ q : Cls (S12y x y l w w1 w2 wc), q.w.cell? ⟨w.heap.size, 3, none⟩ = some (.int .i64 x.n.n) := fun q => q.h.2.2.2.1
    have f4 : ∀ q : Cls (S12y x y l w w1 w2 wc), q.w.cell? ⟨w.heap.size, 4, none⟩ = some (.int .i64 x.t) := fun q => q.h.2.2.2.2.1
    have f5 : ∀ q : Cls (S12y x y l w w1 w2 wc), q.w.cell? ⟨w.heap.size + 1, 0, none⟩ = some (.bool y.n.a.v6) := fun q => q.h.2.2.2.2.2.1
    have f6 : ∀ q : Cls (S12y x y l w w1 w2 wc), q.w.cell? ⟨w.heap.size + 1, 1, none⟩ = some (.int .u64 y.n.a.hi) := fun q => q.h.2.2.2.2.2.2.1
    have f7 : ∀ q : Cls (S12y x y l w w1 w2 wc), q.w.cell? ⟨w.heap.size + 1, 2, none⟩ = some (.int .u64 y.n.a.lo) := fun q => q.h.2.2.2.2.2.2.2.1
    have f8 : ∀ q : Cls (S12y x y l w w1 w2 wc), q.w.cell? ⟨w.heap.size + 1, 3, none⟩ = some (.int .i64 y.n.n) := fun q => q.h.2.2.2.2.2.2.2.2.1
    have f9 : ∀ q : Cls (S12y x y l w w1 w2 wc), q.w.cell? ⟨w.heap.size + 1, 4, none⟩ = some (.int .i64 y.t) := fun q => q.h.2.2.2.2.2.2.2.2.2.1
    have f10 : ∀ q : Cls (S12y x y l w w1 w2 wc), q.w.cell? ⟨w1.heap.size, 0, none⟩ = some (.bool (parseB l).n.a.v6) := fun q => q.h.2.2.2.2.2.2.2.2.2.2.1
    have f11 : ∀ q : Cls (S12y x y l w w1 w2 wc), q.w.cell? ⟨w1.heap.size, 1, none⟩ = some (.int .u64 (parseB l).n.a.hi) := fun q => q.h.2.2.2.2.2.2.2.2.2.2.2.1
    have f12 : ∀ q : Cls (S12y x y l w w1 w2 wc), q.w.cell? ⟨w1.heap.size, 2, none⟩ = some (.int .u64 (parseB l).n.a.lo) := fun q => q.h.2.2.2.2.2.2.2.2.2.2.2.2.1
    have f13 : ∀ q : Cls (S12y x y l w w1 w2 wc), q.w.cell? ⟨w1.heap.size, 3, none⟩ = some (.int .i64 (parseB l).n.n) := fun q => q.h.2.2.2.2.2.2.2.2.2.2.2.2.2.1
    have f14 : ∀ q : Cls (S12y x y l w w1 w2 wc), q.w.cell? ⟨w1.heap.size, 4, none⟩ = some (.int .i64 (parseB l).t) := fun q => q.h.2.2.2.2.2.2.2.2.2.2.2.2.2.2.1
    have f15 : ∀ q : Cls (S12y x y l w w1 w2 wc), q.w.cell? ⟨w2.heap.size, 0, none⟩ = some (.bool (parseB l).n.a.v6) := fun q => q.h.2.2.2.2.2.2.2.2.2.2.2.2.2.2.2.1
    have f16 : ∀ q : Cls (S12y x y l w w1 w2 wc), q.w.cell? ⟨w2.heap.size, 1, none⟩ = some (.int .u64 (parseB l).n.a.hi) := fun q => q.h.2.2.2.2.2.2.2.2.2.2.2.2.2.2.2.2.1
    have f17 : ∀ q : Cls (S12y x y l w w1 w2 wc), q.w.cell? ⟨w2.heap.size, 2, none⟩ = some (.int .u64 (parseB l).n.a.lo) := fun q => q.h.2.2.2.2.2.2.2.2.2.2.2.2.2.2.2.2.2.1
    have f18 : ∀ q : Cls (S12y x y l w w1 w2 wc), q.w.cell? ⟨w2.heap.size, 3, none⟩ = some (.int .i64 (parseB l).n.n) := fun q => q.h.2.2.2.2.2.2.2.2.2.2.2.2.2.2.2.2.2.2.1
    have f19 : ∀ q : Cls (S12y x y l w w1 w2 wc), q.w.cell? ⟨w2.heap.size, 4, none⟩ = some (.int .i64 (parseB l).t) := fun q => q.h.2.2.2.2.2.2.2.2.2.2.2.2.2.2.2.2.2.2.2.1
    have f20 : ∀ q : Cls (S12y x y l w w1 w2 wc), q.w.cell? ⟨w2.heap.size + 1, 0, none⟩ = some (.bool y.n.a.v6) := fun q => q.h.2.2.2.2.2.2.2.2.2.2.2.2.2.2.2.2.2.2.2.2.1
    have f21 : ∀ q : Cls (S12y x y l w w1 w2 wc), q.w.cell? ⟨w2.heap.size + 1, 1, none⟩ = some (.int .u64 y.n.a.hi) := fun q => q.h.2.2.2.2.2.2.2.2.2.2.2.2.2.2.2.2.2.2.2.2.2.1
    have f22 : ∀ q : Cls (S12y x y l w w1 w2 wc), q.w.cell? ⟨w2.heap.size + 1, 2, none⟩ = some (.int .u64 y.n.a.lo) := fun q => q.h.2.2.2.2.2.2.2.2.2.2.2.2.2.2.2.2.2.2.2.2.2.2.1
    have f23 : ∀ q : Cls (S12y x y l w w1 w2 wc), q.w.cell? ⟨w2.heap.size + 1, 3, none⟩ = some (.int .i64 y.n.n) := fun q => q.h.2.2.2.2.2.2.2.2.2.2.2.2.2.2.2.2.2.2.2.2.2.2.2.1
    have f24 : ∀ q : Cls (S12y x y l w w1 w2 wc), q.w.cell? ⟨w2.heap.size + 1, 4, none⟩ = some (.int .i64 y.t) := fun q => q.h.2.2.2.2.2.2.2.2.2.2.2.2.2.2.2.2.2.2.2.2.2.2.2.2.1
    refine Cls.region (S12y x y l w w1 w2 wc) (by kernel_rfl) (by kernel_rfl) (IN _ (low_drewN hk0.2.2.2.2.2.2.2.2.2.2.2.2.2.2.2.2.2.2.2.2.2.2.2.2.2 1)) ?_
    repeat (go_big_quiet_step (first | (with_reducible exact Cls.call (K1.out _ (Cls.h _))) | (with_reducible exact Cls.call (K2.out _ (Cls.h _))) | (with_reducible exact Cls.call (K3.out _ (Cls.h _))) | (with_reducible exact Cls.call (K4.out _ (Cls.h _))) | (with_reducible exact Cls.call (K5.out _ (Cls.h _))) | (with_reducible exact Cls.call (K6.out _ (Cls.h _))) | (with_reducible exact Cls.call (K7.out _ (Cls.h _))) | (with_reducible exact Cls.call (K8.out _ (Cls.h _))) | (with_reducible exact Cls.call (K9.out _ (Cls.h _)))))
    refine wpQuiet_nil ?_
    intro n9
    have hk9 := n9.h
    generalize n9.w = w9 at hk9 ⊢
    clear hne n9 f0 f1 f2 f3 f4 f5 f6 f7 f8 f9 f10 f11 f12 f13 f14 f15 f16 f17 f18 f19 f20 f21 f22 f23 f24
    go_wp2_with fail
    go_ret
    exact ⟨rfl, hlow.trans (hk9.2.2.2.2.2.2.2.2.2.2.2.2.2.2.2.2.2.2.2.2.2.2.2.2.2.mono hlow.size)⟩
theorem banTells_walk (w : World) (x : Ban) (hx : x.ok) (y : Ban) (hy : y.ok) (l : List UInt8) (hl : l.length ≤ 9223372036854775807) (hL : Lens w) :
    Calls Tryz.prog 3 #[.agg #[.bool x.n.a.v6, .int .u64 x.n.a.hi, .int .u64 x.n.a.lo, .int .i64 x.n.n, .int .i64 x.t], .agg #[.bool y.n.a.v6, .int .u64 y.n.a.hi, .int .u64 y.n.a.lo, .int .i64 y.n.n, .int .i64 y.t], .string ⟨l.toArray⟩] w fun e w' => e = .returned (.bool true) ∧ Below w.heap.size w w' := by
  by_cases h : 1000 < l.length
  · have hB2 : Below w.heap.size w ((w.alloc (.cells #[.bool x.n.a.v6, .int .u64 x.n.a.hi, .int .u64 x.n.a.lo, .int .i64 x.n.n, .int .i64 x.t] 28)).alloc (.cells #[.bool y.n.a.v6, .int .u64 y.n.a.hi, .int .u64 y.n.a.lo, .int .i64 y.n.n, .int .i64 y.t] 28)) := ((Below.refl _ _).alloc (Nat.le_refl _) _).alloc (by simp) _
    have hL0 := hL.below hB2
    go_enter Tryz.func3, Tryz.ntmps3
    go_wp2_with fail
    refine (awake12_any _ hL0).mono ?_
    rintro e w1 ⟨rfl, hb1⟩
    go_wp2_with fail
    go_ret
    exact ⟨rfl, hB2.trans (hb1.mono (by simp; omega))⟩
  · have hl2 : l.length ≤ 1000 := by omega
    cases hq : sameN x.n y.n
    · exact btells_other w x hx y hy l hl2 hL hq
    · by_cases hg : x.t < y.t
      · exact btells_more w x hx y hy l hl2 hL hq hg
      · exact btells_less w x hx y hy l hl2 hL hq hg
namespace banTells
theorem contract (H : Type) (enc : TypeId × Value → H) (W : World) (base : Nat) (args : Array Value) (ds gs : List (DataW H)) (before : List MemPlace)
    (hval0 : ∀ (j : Nat) t v, Tryz.f3.params[j]? = some t → args[j]? = some v → Value.okWide Tryz.prog W .any base t v)
    (hW : DataW.Whole enc Tryz.prog Tryz.f3.params.toList Rows.banTellsSpec.vars false W args.toList ds gs before) (hSh : W.ShapedOpen Tryz.prog) :
    Calls Tryz.prog 3 args W fun e W' => ∃ v, e = .returned v ∧ Rows.banTellsSpec.post enc Tryz.prog Tryz.f3 false true false false W args v W' := by
  have hval : ∀ (j : Nat) t v, Tryz.f3.params[j]? = some t → args[j]? = some v → Value.okWide Tryz.prog W .any base t v := hval0
  have hW' := hW
  obtain ⟨p, q, hA0, hV, _, _, _⟩ := hW
  have hA : DataW.TrodAll enc Tryz.prog W 0 (fun _ => true) true Tryz.f3.params.toList args.toList ds p := hA0
  rw [Tryz.params3] at hA hval
  obtain ⟨v0, vs0, d0, ds0, p0, q0, hargs, rfl, rfl, h0, r0⟩ := trodAll_cons hA
  obtain ⟨v1, vs1, d1, ds1, p1, q1, rfl, rfl, rfl, h1, r1⟩ := trodAll_cons r0
  obtain ⟨v2, vs2, d2, ds2, p2, q2, rfl, rfl, rfl, h2, r2⟩ := trodAll_cons r1
  obtain ⟨rfl, rfl, rfl⟩ := trodAll_nil r2
  obtain rfl : args = #[v0, v1, v2] := by cases args; simp_all
  obtain ⟨rfl, rfl⟩ := trodVars_none hV
  obtain ⟨a0, z0, rfl⟩ := open_ban (hval 0 28 v0 rfl rfl) h0
  obtain ⟨a1, z1, rfl⟩ := open_ban (hval 1 28 v1 rfl rfl) h1
  obtain ⟨b2, rfl, rfl, rfl, w2⟩ := ChangeMaps.open_string Tryz.underlying9 (hval 2 9 v2 rfl rfl) h2
  obtain ⟨a2, rfl⟩ : ∃ a : List UInt8, b2 = ⟨a.toArray⟩ := ⟨b2.data.toList, (str_same _).symm⟩
  have z2 : a2.length ≤ 9223372036854775807 := by unfold maxLen at w2; rw [← len_size, str_back] at w2; exact w2
  clear hA0 hval0
  refine (banTells_walk W a0 z0 a1 z1 a2 (by omega) (V6.Lens.start hSh)).mono fun e W' ⟨he, hg⟩ => ?_
  subst he
  exact ⟨_, rfl, post_law laidOut (by kernel_rfl) (by kernel_rfl) Tryz.underlying4 rfl hW' rfl rfl rfl hg⟩
set_option maxRecDepth 100000 in
theorem lifted (os : Os) (started : os.Started) (H : Type) (enc : TypeId × Value → H) (F : Stop.Interp) :
    ReturnsInHanded {} Tryz.checked os 3 .any ((OpenSpec.ofChange Rows.banTellsSpec).preRow enc Tryz.prog Tryz.f3 Rows.banTellsRow.domain false Rows.banTellsRow.laid) (((OpenSpec.ofChange Rows.banTellsSpec).at F).post enc Tryz.prog Tryz.f3 false true false false) := by
  refine returnsInHanded_of_row (C := Tryz.checked) (s := OpenSpec.ofChange Rows.banTellsSpec) own started (by kernel_rfl) Tryz.func3
    (witness_laid (enc := enc) (C := Tryz.checked) (s := OpenSpec.ofChange Rows.banTellsSpec) (laid := Rows.banTellsRow.laid) #[.agg #[.bool false, .int .u64 0, .int .u64 0, .int .i64 0, .int .i64 0], .agg #[.bool false, .int .u64 0, .int .u64 0, .int .i64 0, .int .i64 0], .string ByteArray.empty] (World.shaped_of_ZipB (by kernel_rfl) (by kernel_rfl)) (by kernel_rfl)
      (OpenSpec.preRow_of_cond 8 (x := ([.agg [.agg [.agg [.lit (.bool false), .lit (.int .u64 0), .lit (.int .u64 0)], .lit (.int .i64 0)], .lit (.int .i64 0)], .agg [.agg [.agg [.lit (.bool false), .lit (.int .u64 0), .lit (.int .u64 0)], .lit (.int .i64 0)], .lit (.int .i64 0)], .lit (.string [])], [], [])) (by kernel_rfl) (by kernel_rfl) (fun k hk => by cases hk) (by kernel_rfl)
        (by rw [MakeChecks.laidMetH_plain _ _ _ (by kernel_rfl)]; exact laidMet_laidAll _ (by kernel_rfl) (by kernel_rfl)))) ?_
  intro W base args ds gs before hval hW _ hcond _ _ hsh _
  exact contract H enc W base args ds gs before hval hW hsh
theorem over : Rows.banTellsRow.holds Tryz.pinned (OpenSpec.ofChange Rows.banTellsSpec) :=
  OpenClaim.holds_of_cond 3 Tryz.f3 rfl rfl rfl rfl rfl rfl rfl ⟨rfl, rfl, rfl, rfl, rfl⟩ rfl rfl rfl rfl rfl (by kernel_rfl) Tryz.func3 (by kernel_rfl)
    (of_decide_eq_true (by kernel_rfl)) (by unfold Func.isWrapper; first | (rw [if_pos (by decide +kernel)]; kernel_rfl) | (rw [if_neg (by decide +kernel)]; exact ⟨rfl, rfl⟩))
    (fun os started H enc _ F => by rw [OpenClaim.pre_eq_preRow]; exact lifted os started H enc F)
/-- ████ THE STATEMENT ████ -/
theorem proved : Rows.BanTellsCardSaid :=
  Claim7.holds_tied_plain_at .later [] Rows.banTellsCard.laidKinds Rows.banTellsCard.laidTests Rows.banTellsCard.stood.harness Rows.banTellsCard.stood.looks over (fun _ h => by cases h) (by kernel_rfl) (fun _ h => by cases h) banTells_row_tie rfl ⟨rfl, rfl⟩ (by kernel_rfl) rfl
    (fun f fn hf hfn => by
      obtain rfl : f = 3 := Option.some.inj ((show Tryz.prog.funcNamed Rows.banTellsRow.func = some 3 by kernel_rfl).symm.trans hf) |>.symm
      obtain rfl : fn = Tryz.f3 := (Option.some.inj (Tryz.func3.symm.trans hfn)).symm
      exact ⟨by kernel_rfl, no_standin (by kernel_rfl)⟩)
    (by kernel_rfl)
end banTells
end Go.Proofs.YtpbgmgjnclhpmaaGreatDoor
