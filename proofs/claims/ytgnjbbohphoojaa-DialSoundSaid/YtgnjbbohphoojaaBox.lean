/- Boxes: what a function keeps in blocks of its own while it calls: the worlds that stand above a world, contracts in them, a box known through them. Of no program. -/
import Derived.Test.YtgnjbbohphoojaaBlk
import Derived.Test.YtgnjbbohphoojaaKit
import Derived.Deep.RegionHeld3
import Derived.Deep.DeepCutAuto
namespace Go.Proofs.Ytgnjbbohphoojaa
set_option maxRecDepth 100000
open Go.ChangeShapes Go.WideShapes Go.ChangeAt Go.RowKit
set_option linter.unusedVariables false
/-- Worlds in which all blocks of W0 are as they were. -/
abbrev Lows (W0 w' : World) : Prop := Below W0.heap.size W0 w'
theorem lows_call {P : Program} {f : FuncId} {args : Array Value} {v : Value} {W0 : World} (C : Hid (∀ W, Calls P f args W fun e w' => e = .returned v ∧ Below W.heap.size W w')) :
    Hid (∀ W, Lows W0 W → Calls P f args W fun e w' => e = .returned v ∧ Lows W0 w') :=
  Lib.hid fun W k => (C.out W).mono fun _ _ ⟨he, hb⟩ => ⟨he, low_trans k hb⟩
theorem lows_same {P : Program} {f : FuncId} {args : Array Value} {v : Value} {W0 : World} (C : Hid (∀ W, Calls P f args W fun e w' => e = .returned v ∧ W = w')) :
    Hid (∀ W, Lows W0 W → Calls P f args W fun e w' => e = .returned v ∧ Lows W0 w') :=
  Lib.hid fun W k => (C.out W).mono fun _ _ ⟨he, hb⟩ => ⟨he, hb ▸ k⟩
theorem Lows.alloc {W0 w' : World} (h : Lows W0 w') (o : Obj) : Lows W0 (w'.alloc o) := Below.alloc h h.size o
theorem Lows.drew {W0 w' : World} (h : Lows W0 w') : Lows W0 w'.drew := low_drewN h 1
theorem Lows.self (W0 : World) : Lows W0 W0 := Below.refl _ _
/-- A box of W0, in a world above it. -/
theorem Blk.in {W0 w' : World} {b : Nat} {t : TypeId} {vs : List Value} (h : Hid (Blk W0 b t vs)) (k : Lows W0 w') {j : Nat} {v : Value} (hj : vs[j]? = some v) : w'.cell? ⟨b, j, none⟩ = some v := (h.out.on k).cell hj
theorem Blk.two (w : World) (o : Obj) (cs : Array Value) (t : TypeId) : Blk ((w.alloc o).alloc (.cells cs t)) (w.heap.size + 1) t cs.toList := by
  have k := Blk.new (w.alloc o) cs t
  rwa [show (w.alloc o).heap.size = w.heap.size + 1 from by simp] at k
theorem Blk.three (w : World) (o p : Obj) (cs : Array Value) (t : TypeId) : Blk (((w.alloc o).alloc p).alloc (.cells cs t)) (w.heap.size + 2) t cs.toList := by
  have k := Blk.new ((w.alloc o).alloc p) cs t
  rwa [show ((w.alloc o).alloc p).heap.size = w.heap.size + 2 from by simp] at k
end Go.Proofs.Ytgnjbbohphoojaa
