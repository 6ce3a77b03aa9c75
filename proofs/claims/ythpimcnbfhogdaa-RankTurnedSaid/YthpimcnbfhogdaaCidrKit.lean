/- Small words for subnets in memory. -/
import Derived.Test.YthpimcnbfhogdaaAddrAll
import Derived.Test.YthpimcnbfhogdaaMath
import Derived.Laws.Small
import Derived.Lib.MinMax
import Derived.Deep.RegionHeld3
import Derived.Outline
import Derived.Deep.RegionWith
namespace Go.Proofs.Ythpimcnbfhogdaa.Ci
set_option maxRecDepth 100000
open Go.ChangeShapes Go.WideShapes Go.ChangeAt Go.RowKit
open Dec Words V4 V6 Ad
set_option linter.unusedVariables false
theorem cells_left {W w' : World} (h : Below W.heap.size W w') {b o : Nat} {v : Value} (hc : W.cell? ⟨b, o, none⟩ = some v) : w'.cell? ⟨b, o, none⟩ = some v :=
  (h.cell (p := ⟨b, o, none⟩) (World.block_lt_of_cell? _ _ hc)).trans hc
theorem sizes {n m : Nat} (h : n + 2 ≤ m) : n < m ∧ n + 1 < m ∧ ¬ n = m ∧ ¬ n + 1 = m ∧ ¬ m = n ∧ ¬ m = n + 1 := ⟨by omega, by omega, by omega, by omega, by omega, by omega⟩
theorem low_drew {B : Nat} {a w : World} (h : Below B a w) : Below B a w.drew := low_drewN h 1
theorem frozen_left {W w' : World} (h : Below W.heap.size W w') {b o : Nat} (hl : b < W.heap.size) (hc : W.frozen? ⟨b, o, none⟩ = false) : w'.frozen? ⟨b, o, none⟩ = false := ((old h).2 b o hl).trans hc
theorem swap {P R : World → Prop} {X : World} (h : R X) (k : ∀ w5, R w5 → P w5) : P X := k X h
abbrev OF (n : Net) (p : Nat) (w' : World) : Prop := w'.cell? ⟨p, 0, none⟩ = some (.bool n.a.v6) ∧ w'.cell? ⟨p, 1, none⟩ = some (.int .u64 n.a.hi) ∧ w'.cell? ⟨p, 2, none⟩ = some (.int .u64 n.a.lo) ∧ w'.cell? ⟨p, 3, none⟩ = some (.int .i64 n.n)
theorem own_set {n : Net} {p : Nat} {wm : World} (h0 : (wm.cell? ⟨p, 0, none⟩).isSome = true) (h1 : (wm.cell? ⟨p, 1, none⟩).isSome = true) (h2 : (wm.cell? ⟨p, 2, none⟩).isSome = true) (h3 : (wm.cell? ⟨p, 3, none⟩).isSome = true) :
    OF n p ((((wm.setCell ⟨p, 0, none⟩ (.bool n.a.v6)).setCell ⟨p, 1, none⟩ (.int .u64 n.a.hi)).setCell ⟨p, 2, none⟩ (.int .u64 n.a.lo)).setCell ⟨p, 3, none⟩ (.int .i64 n.n)) := by
  refine ⟨?_, ?_, ?_, ?_⟩ <;> simp [go_sem, h0, h1, h2, h3]
theorem own_new {n : Net} {wm : World} {t : TypeId} : OF n wm.heap.size (wm.alloc (.cells #[.bool n.a.v6, .int .u64 n.a.hi, .int .u64 n.a.lo, .int .i64 n.n] t)) := by
  refine ⟨?_, ?_, ?_, ?_⟩ <;> simp [go_sem]
abbrev SF (a : Adr) (w : World) (w' : World) : Prop := w'.cell? ⟨w.heap.size, 0, none⟩ = some (.bool a.v6) ∧ w'.cell? ⟨w.heap.size, 1, none⟩ = some (.int .u64 a.hi) ∧ w'.cell? ⟨w.heap.size, 2, none⟩ = some (.int .u64 a.lo) ∧ w'.cell? ⟨w.heap.size + 1, 0, none⟩ = some (.bool false) ∧ w'.cell? ⟨w.heap.size + 1, 1, none⟩ = some (.int .u64 0) ∧ w'.cell? ⟨w.heap.size + 1, 2, none⟩ = some (.int .u64 0) ∧ w'.cell? ⟨w.heap.size + 1, 3, none⟩ = some (.int .i64 0) ∧ w'.frozen? ⟨w.heap.size + 1, 0, none⟩ = false ∧ w'.frozen? ⟨w.heap.size + 1, 1, none⟩ = false ∧ w'.frozen? ⟨w.heap.size + 1, 2, none⟩ = false ∧ w'.frozen? ⟨w.heap.size + 1, 3, none⟩ = false ∧ Stays ((w.alloc (.cells #[.bool a.v6, .int .u64 a.hi, .int .u64 a.lo] 29)).alloc (.cells #[.bool false, .int .u64 0, .int .u64 0, .int .i64 0] 51)) w'
end Go.Proofs.Ythpimcnbfhogdaa.Ci
