/- Contracts of package trie, second part: what is put into a tree, what is taken out of it. -/
import Derived.Test.YtgnpnmdndlodlaaTriA
import Derived.Deep.DeepCutAuto
namespace Go.Proofs.Ytgnpnmdndlodlaa.Tr
set_option maxRecDepth 100000
open Go.ChangeShapes Go.WideShapes Go.ChangeAt Go.RowKit
open Dec Words V4 V6 Ad Ci
set_option linter.unusedVariables false
set_option maxHeartbeats 1000000 in
theorem over_leaf (n : Net) (w : World) :
    Calls Try.prog 41 #[.pointer none, .agg #[.bool n.a.v6, .int .u64 n.a.hi, .int .u64 n.a.lo, .int .i64 n.n]] w fun e w' => e = .returned (.agg #[.bool n.a.v6, .int .u64 n.a.hi, .int .u64 n.a.lo, .int .i64 n.n, .bool false, .int .i64 0, .pointer none, .pointer none]) ∧ Below w.heap.size w w' := by
  go_enter Try.func41, Try.ntmps41
  go_wp2_with fail
  exact bodyPost_ret (v := .agg #[.bool n.a.v6, .int .u64 n.a.hi, .int .u64 n.a.lo, .int .i64 n.n, .bool false, .int .i64 0, .pointer none, .pointer none]) (by simp [results, Try.results41, go_sem]) rfl ⟨rfl, two_low _ _ _⟩
set_option maxHeartbeats 2000000 in
theorem over_in (n m : Net) (i : Bool) (x : Int) (pz po : Option Addr) (b : Nat) (w : World) (hn : n.ok) (hm : m.ok) (hN : Node w b m i x pz po) (hw : withinN n m = true) :
    Calls Try.prog 41 #[.pointer (some ⟨b, 0, none⟩), .agg #[.bool n.a.v6, .int .u64 n.a.hi, .int .u64 n.a.lo, .int .i64 n.n]] w fun e w' => e = .returned (.agg #[.bool m.a.v6, .int .u64 m.a.hi, .int .u64 m.a.lo, .int .i64 m.n, .bool i, .int .i64 x, .pointer pz, .pointer po]) ∧ Below w.heap.size w w' := by
  have hb := hN.lt
  have LOW : Below w.heap.size w ((w.alloc (.cells #[.bool n.a.v6, .int .u64 n.a.hi, .int .u64 n.a.lo, .int .i64 n.n] 27)).alloc (.cells #[.bool false, .int .u64 0, .int .u64 0, .int .i64 0, .bool false, .int .i64 0, .pointer none, .pointer none] 63)) := two_low _ _ _
  have k0 : ((w.alloc (.cells #[.bool n.a.v6, .int .u64 n.a.hi, .int .u64 n.a.lo, .int .i64 n.n] 27)).alloc (.cells #[.bool false, .int .u64 0, .int .u64 0, .int .i64 0, .bool false, .int .i64 0, .pointer none, .pointer none] 63)).cell? ⟨w.heap.size, 0, none⟩ = some (.bool n.a.v6) := by simp [go_sem]
  have k1 : ((w.alloc (.cells #[.bool n.a.v6, .int .u64 n.a.hi, .int .u64 n.a.lo, .int .i64 n.n] 27)).alloc (.cells #[.bool false, .int .u64 0, .int .u64 0, .int .i64 0, .bool false, .int .i64 0, .pointer none, .pointer none] 63)).cell? ⟨w.heap.size, 1, none⟩ = some (.int .u64 n.a.hi) := by simp [go_sem]
  have k2 : ((w.alloc (.cells #[.bool n.a.v6, .int .u64 n.a.hi, .int .u64 n.a.lo, .int .i64 n.n] 27)).alloc (.cells #[.bool false, .int .u64 0, .int .u64 0, .int .i64 0, .bool false, .int .i64 0, .pointer none, .pointer none] 63)).cell? ⟨w.heap.size, 2, none⟩ = some (.int .u64 n.a.lo) := by simp [go_sem]
  have k3 : ((w.alloc (.cells #[.bool n.a.v6, .int .u64 n.a.hi, .int .u64 n.a.lo, .int .i64 n.n] 27)).alloc (.cells #[.bool false, .int .u64 0, .int .u64 0, .int .i64 0, .bool false, .int .i64 0, .pointer none, .pointer none] 63)).cell? ⟨w.heap.size, 3, none⟩ = some (.int .i64 n.n) := by simp [go_sem]
  have m0 : ((w.alloc (.cells #[.bool n.a.v6, .int .u64 n.a.hi, .int .u64 n.a.lo, .int .i64 n.n] 27)).alloc (.cells #[.bool false, .int .u64 0, .int .u64 0, .int .i64 0, .bool false, .int .i64 0, .pointer none, .pointer none] 63)).cell? ⟨b, 0, none⟩ = some (.bool m.a.v6) := cells_left LOW hN.c0
  have m1 : ((w.alloc (.cells #[.bool n.a.v6, .int .u64 n.a.hi, .int .u64 n.a.lo, .int .i64 n.n] 27)).alloc (.cells #[.bool false, .int .u64 0, .int .u64 0, .int .i64 0, .bool false, .int .i64 0, .pointer none, .pointer none] 63)).cell? ⟨b, 1, none⟩ = some (.int .u64 m.a.hi) := cells_left LOW hN.c1
  have m2 : ((w.alloc (.cells #[.bool n.a.v6, .int .u64 n.a.hi, .int .u64 n.a.lo, .int .i64 n.n] 27)).alloc (.cells #[.bool false, .int .u64 0, .int .u64 0, .int .i64 0, .bool false, .int .i64 0, .pointer none, .pointer none] 63)).cell? ⟨b, 2, none⟩ = some (.int .u64 m.a.lo) := cells_left LOW hN.c2
  have m3 : ((w.alloc (.cells #[.bool n.a.v6, .int .u64 n.a.hi, .int .u64 n.a.lo, .int .i64 n.n] 27)).alloc (.cells #[.bool false, .int .u64 0, .int .u64 0, .int .i64 0, .bool false, .int .i64 0, .pointer none, .pointer none] 63)).cell? ⟨b, 3, none⟩ = some (.int .i64 m.n) := cells_left LOW hN.c3
  have m4 : ((w.alloc (.cells #[.bool n.a.v6, .int .u64 n.a.hi, .int .u64 n.a.lo, .int .i64 n.n] 27)).alloc (.cells #[.bool false, .int .u64 0, .int .u64 0, .int .i64 0, .bool false, .int .i64 0, .pointer none, .pointer none] 63)).cell? ⟨b, 4, none⟩ = some (.bool i) := cells_left LOW hN.c4
  have m5 : ((w.alloc (.cells #[.bool n.a.v6, .int .u64 n.a.hi, .int .u64 n.a.lo, .int .i64 n.n] 27)).alloc (.cells #[.bool false, .int .u64 0, .int .u64 0, .int .i64 0, .bool false, .int .i64 0, .pointer none, .pointer none] 63)).cell? ⟨b, 5, none⟩ = some (.int .i64 x) := cells_left LOW hN.c5
  have m6 : ((w.alloc (.cells #[.bool n.a.v6, .int .u64 n.a.hi, .int .u64 n.a.lo, .int .i64 n.n] 27)).alloc (.cells #[.bool false, .int .u64 0, .int .u64 0, .int .i64 0, .bool false, .int .i64 0, .pointer none, .pointer none] 63)).cell? ⟨b, 6, none⟩ = some (.pointer pz) := cells_left LOW hN.c6
  have m7 : ((w.alloc (.cells #[.bool n.a.v6, .int .u64 n.a.hi, .int .u64 n.a.lo, .int .i64 n.n] 27)).alloc (.cells #[.bool false, .int .u64 0, .int .u64 0, .int .i64 0, .bool false, .int .i64 0, .pointer none, .pointer none] 63)).cell? ⟨b, 7, none⟩ = some (.pointer po) := cells_left LOW hN.c7
  have z0 : ((w.alloc (.cells #[.bool n.a.v6, .int .u64 n.a.hi, .int .u64 n.a.lo, .int .i64 n.n] 27)).alloc (.cells #[.bool false, .int .u64 0, .int .u64 0, .int .i64 0, .bool false, .int .i64 0, .pointer none, .pointer none] 63)).cell? ⟨w.heap.size + 1, 0, none⟩ = some (.bool false) := by simp [go_sem]
  have y0 : ((w.alloc (.cells #[.bool n.a.v6, .int .u64 n.a.hi, .int .u64 n.a.lo, .int .i64 n.n] 27)).alloc (.cells #[.bool false, .int .u64 0, .int .u64 0, .int .i64 0, .bool false, .int .i64 0, .pointer none, .pointer none] 63)).frozen? ⟨w.heap.size + 1, 0, none⟩ = false := by simp [go_sem]
  have z1 : ((w.alloc (.cells #[.bool n.a.v6, .int .u64 n.a.hi, .int .u64 n.a.lo, .int .i64 n.n] 27)).alloc (.cells #[.bool false, .int .u64 0, .int .u64 0, .int .i64 0, .bool false, .int .i64 0, .pointer none, .pointer none] 63)).cell? ⟨w.heap.size + 1, 1, none⟩ = some (.int .u64 0) := by simp [go_sem]
  have y1 : ((w.alloc (.cells #[.bool n.a.v6, .int .u64 n.a.hi, .int .u64 n.a.lo, .int .i64 n.n] 27)).alloc (.cells #[.bool false, .int .u64 0, .int .u64 0, .int .i64 0, .bool false, .int .i64 0, .pointer none, .pointer none] 63)).frozen? ⟨w.heap.size + 1, 1, none⟩ = false := by simp [go_sem]
  have z2 : ((w.alloc (.cells #[.bool n.a.v6, .int .u64 n.a.hi, .int .u64 n.a.lo, .int .i64 n.n] 27)).alloc (.cells #[.bool false, .int .u64 0, .int .u64 0, .int .i64 0, .bool false, .int .i64 0, .pointer none, .pointer none] 63)).cell? ⟨w.heap.size + 1, 2, none⟩ = some (.int .u64 0) := by simp [go_sem]
  have y2 : ((w.alloc (.cells #[.bool n.a.v6, .int .u64 n.a.hi, .int .u64 n.a.lo, .int .i64 n.n] 27)).alloc (.cells #[.bool false, .int .u64 0, .int .u64 0, .int .i64 0, .bool false, .int .i64 0, .pointer none, .pointer none] 63)).frozen? ⟨w.heap.size + 1, 2, none⟩ = false := by simp [go_sem]
  have z3 : ((w.alloc (.cells #[.bool n.a.v6, .int .u64 n.a.hi, .int .u64 n.a.lo, .int .i64 n.n] 27)).alloc (.cells #[.bool false, .int .u64 0, .int .u64 0, .int .i64 0, .bool false, .int .i64 0, .pointer none, .pointer none] 63)).cell? ⟨w.heap.size + 1, 3, none⟩ = some (.int .i64 0) := by simp [go_sem]
  have y3 : ((w.alloc (.cells #[.bool n.a.v6, .int .u64 n.a.hi, .int .u64 n.a.lo, .int .i64 n.n] 27)).alloc (.cells #[.bool false, .int .u64 0, .int .u64 0, .int .i64 0, .bool false, .int .i64 0, .pointer none, .pointer none] 63)).frozen? ⟨w.heap.size + 1, 3, none⟩ = false := by simp [go_sem]
  have z4 : ((w.alloc (.cells #[.bool n.a.v6, .int .u64 n.a.hi, .int .u64 n.a.lo, .int .i64 n.n] 27)).alloc (.cells #[.bool false, .int .u64 0, .int .u64 0, .int .i64 0, .bool false, .int .i64 0, .pointer none, .pointer none] 63)).cell? ⟨w.heap.size + 1, 4, none⟩ = some (.bool false) := by simp [go_sem]
  have y4 : ((w.alloc (.cells #[.bool n.a.v6, .int .u64 n.a.hi, .int .u64 n.a.lo, .int .i64 n.n] 27)).alloc (.cells #[.bool false, .int .u64 0, .int .u64 0, .int .i64 0, .bool false, .int .i64 0, .pointer none, .pointer none] 63)).frozen? ⟨w.heap.size + 1, 4, none⟩ = false := by simp [go_sem]
  have z5 : ((w.alloc (.cells #[.bool n.a.v6, .int .u64 n.a.hi, .int .u64 n.a.lo, .int .i64 n.n] 27)).alloc (.cells #[.bool false, .int .u64 0, .int .u64 0, .int .i64 0, .bool false, .int .i64 0, .pointer none, .pointer none] 63)).cell? ⟨w.heap.size + 1, 5, none⟩ = some (.int .i64 0) := by simp [go_sem]
  have y5 : ((w.alloc (.cells #[.bool n.a.v6, .int .u64 n.a.hi, .int .u64 n.a.lo, .int .i64 n.n] 27)).alloc (.cells #[.bool false, .int .u64 0, .int .u64 0, .int .i64 0, .bool false, .int .i64 0, .pointer none, .pointer none] 63)).frozen? ⟨w.heap.size + 1, 5, none⟩ = false := by simp [go_sem]
  have z6 : ((w.alloc (.cells #[.bool n.a.v6, .int .u64 n.a.hi, .int .u64 n.a.lo, .int .i64 n.n] 27)).alloc (.cells #[.bool false, .int .u64 0, .int .u64 0, .int .i64 0, .bool false, .int .i64 0, .pointer none, .pointer none] 63)).cell? ⟨w.heap.size + 1, 6, none⟩ = some (.pointer none) := by simp [go_sem]
  have y6 : ((w.alloc (.cells #[.bool n.a.v6, .int .u64 n.a.hi, .int .u64 n.a.lo, .int .i64 n.n] 27)).alloc (.cells #[.bool false, .int .u64 0, .int .u64 0, .int .i64 0, .bool false, .int .i64 0, .pointer none, .pointer none] 63)).frozen? ⟨w.heap.size + 1, 6, none⟩ = false := by simp [go_sem]
  have z7 : ((w.alloc (.cells #[.bool n.a.v6, .int .u64 n.a.hi, .int .u64 n.a.lo, .int .i64 n.n] 27)).alloc (.cells #[.bool false, .int .u64 0, .int .u64 0, .int .i64 0, .bool false, .int .i64 0, .pointer none, .pointer none] 63)).cell? ⟨w.heap.size + 1, 7, none⟩ = some (.pointer none) := by simp [go_sem]
  have y7 : ((w.alloc (.cells #[.bool n.a.v6, .int .u64 n.a.hi, .int .u64 n.a.lo, .int .i64 n.n] 27)).alloc (.cells #[.bool false, .int .u64 0, .int .u64 0, .int .i64 0, .bool false, .int .i64 0, .pointer none, .pointer none] 63)).frozen? ⟨w.heap.size + 1, 7, none⟩ = false := by simp [go_sem]
  have K1 : Hid (∀ W0, Stays ((w.alloc (.cells #[.bool n.a.v6, .int .u64 n.a.hi, .int .u64 n.a.lo, .int .i64 n.n] 27)).alloc (.cells #[.bool false, .int .u64 0, .int .u64 0, .int .i64 0, .bool false, .int .i64 0, .pointer none, .pointer none] 63)) W0 → Calls Try.prog 45 #[.agg #[.bool n.a.v6, .int .u64 n.a.hi, .int .u64 n.a.lo, .int .i64 n.n], .agg #[.bool m.a.v6, .int .u64 m.a.hi, .int .u64 m.a.lo, .int .i64 m.n]] W0 fun e w' => e = .returned (.bool true) ∧ Stays ((w.alloc (.cells #[.bool n.a.v6, .int .u64 n.a.hi, .int .u64 n.a.lo, .int .i64 n.n] 27)).alloc (.cells #[.bool false, .int .u64 0, .int .u64 0, .int .i64 0, .bool false, .int .i64 0, .pointer none, .pointer none] 63)) w') := Lib.hid (keep_call fun W0 => by have := within_any n m W0 hn hm; rw [hw] at this; exact this)
  clear hw
  go_enter Try.func41, Try.ntmps41
  go_wp2_with fail
  have hne : Nonempty (Cls (Stays ((w.alloc (.cells #[.bool n.a.v6, .int .u64 n.a.hi, .int .u64 n.a.lo, .int .i64 n.n] 27)).alloc (.cells #[.bool false, .int .u64 0, .int .u64 0, .int .i64 0, .bool false, .int .i64 0, .pointer none, .pointer none] 63)))) := ⟨⟨_, Below.refl _ _⟩⟩
  have f0 : ∀ q : Cls (Stays ((w.alloc (.cells #[.bool n.a.v6, .int .u64 n.a.hi, .int .u64 n.a.lo, .int .i64 n.n] 27)).alloc (.cells #[.bool false, .int .u64 0, .int .u64 0, .int .i64 0, .bool false, .int .i64 0, .pointer none, .pointer none] 63))), q.w.cell? ⟨w.heap.size, 0, none⟩ = some (.bool n.a.v6) := fun q => cells_left q.h (k0)
  have f1 : ∀ q : Cls (Stays ((w.alloc (.cells #[.bool n.a.v6, .int .u64 n.a.hi, .int .u64 n.a.lo, .int .i64 n.n] 27)).alloc (.cells #[.bool false, .int .u64 0, .int .u64 0, .int .i64 0, .bool false, .int .i64 0, .pointer none, .pointer none] 63))), q.w.cell? ⟨w.heap.size, 1, none⟩ = some (.int .u64 n.a.hi) := fun q => cells_left q.h (k1)
  have f2 : ∀ q : Cls (Stays ((w.alloc (.cells #[.bool n.a.v6, .int .u64 n.a.hi, .int .u64 n.a.lo, .int .i64 n.n] 27)).alloc (.cells #[.bool false, .int .u64 0, .int .u64 0, .int .i64 0, .bool false, .int .i64 0, .pointer none, .pointer none] 63))), q.w.cell? ⟨w.heap.size, 2, none⟩ = some (.int .u64 n.a.lo) := fun q => cells_left q.h (k2)
  have f3 : ∀ q : Cls (Stays ((w.alloc (.cells #[.bool n.a.v6, .int .u64 n.a.hi, .int .u64 n.a.lo, .int .i64 n.n] 27)).alloc (.cells #[.bool false, .int .u64 0, .int .u64 0, .int .i64 0, .bool false, .int .i64 0, .pointer none, .pointer none] 63))), q.w.cell? ⟨w.heap.size, 3, none⟩ = some (.int .i64 n.n) := fun q => cells_left q.h (k3)
  have f4 : ∀ q : Cls (Stays ((w.alloc (.cells #[.bool n.a.v6, .int .u64 n.a.hi, .int .u64 n.a.lo, .int .i64 n.n] 27)).alloc (.cells #[.bool false, .int .u64 0, .int .u64 0, .int .i64 0, .bool false, .int .i64 0, .pointer none, .pointer none] 63))), q.w.cell? ⟨b, 0, none⟩ = some (.bool m.a.v6) := fun q => cells_left q.h (m0)
  have f5 : ∀ q : Cls (Stays ((w.alloc (.cells #[.bool n.a.v6, .int .u64 n.a.hi, .int .u64 n.a.lo, .int .i64 n.n] 27)).alloc (.cells #[.bool false, .int .u64 0, .int .u64 0, .int .i64 0, .bool false, .int .i64 0, .pointer none, .pointer none] 63))), q.w.cell? ⟨b, 1, none⟩ = some (.int .u64 m.a.hi) := fun q => cells_left q.h (m1)
  have f6 : ∀ q : Cls (Stays ((w.alloc (.cells #[.bool n.a.v6, .int .u64 n.a.hi, .int .u64 n.a.lo, .int .i64 n.n] 27)).alloc (.cells #[.bool false, .int .u64 0, .int .u64 0, .int .i64 0, .bool false, .int .i64 0, .pointer none, .pointer none] 63))), q.w.cell? ⟨b, 2, none⟩ = some (.int .u64 m.a.lo) := fun q => cells_left q.h (m2)
  have f7 : ∀ q : Cls (Stays ((w.alloc (.cells #[.bool n.a.v6, .int .u64 n.a.hi, .int .u64 n.a.lo, .int .i64 n.n] 27)).alloc (.cells #[.bool false, .int .u64 0, .int .u64 0, .int .i64 0, .bool false, .int .i64 0, .pointer none, .pointer none] 63))), q.w.cell? ⟨b, 3, none⟩ = some (.int .i64 m.n) := fun q => cells_left q.h (m3)
  refine Cls.region (Stays ((w.alloc (.cells #[.bool n.a.v6, .int .u64 n.a.hi, .int .u64 n.a.lo, .int .i64 n.n] 27)).alloc (.cells #[.bool false, .int .u64 0, .int .u64 0, .int .i64 0, .bool false, .int .i64 0, .pointer none, .pointer none] 63))) (by kernel_rfl) (by kernel_rfl) (low_drewN (Below.refl _ _) 1) ?_
  repeat (go_big_quiet_step (first | fail | (with_reducible exact Cls.call (K1.out _ (Cls.h _)))))
  refine wpQuiet_nil ?_
  intro n9
  have hs9 := n9.h
  generalize n9.w = w9 at hs9 ⊢
  clear hne n9 f0 f1 f2 f3 f4 f5 f6 f7
  have m0' : w9.cell? ⟨b, 0, none⟩ = some (.bool m.a.v6) := cells_left hs9 m0
  have m1' : w9.cell? ⟨b, 1, none⟩ = some (.int .u64 m.a.hi) := cells_left hs9 m1
  have m2' : w9.cell? ⟨b, 2, none⟩ = some (.int .u64 m.a.lo) := cells_left hs9 m2
  have m3' : w9.cell? ⟨b, 3, none⟩ = some (.int .i64 m.n) := cells_left hs9 m3
  have m4' : w9.cell? ⟨b, 4, none⟩ = some (.bool i) := cells_left hs9 m4
  have m5' : w9.cell? ⟨b, 5, none⟩ = some (.int .i64 x) := cells_left hs9 m5
  have m6' : w9.cell? ⟨b, 6, none⟩ = some (.pointer pz) := cells_left hs9 m6
  have m7' : w9.cell? ⟨b, 7, none⟩ = some (.pointer po) := cells_left hs9 m7
  have k0' : w9.cell? ⟨w.heap.size, 0, none⟩ = some (.bool n.a.v6) := cells_left hs9 k0
  have k1' : w9.cell? ⟨w.heap.size, 1, none⟩ = some (.int .u64 n.a.hi) := cells_left hs9 k1
  have k2' : w9.cell? ⟨w.heap.size, 2, none⟩ = some (.int .u64 n.a.lo) := cells_left hs9 k2
  have k3' : w9.cell? ⟨w.heap.size, 3, none⟩ = some (.int .i64 n.n) := cells_left hs9 k3
  have z0' : w9.cell? ⟨w.heap.size + 1, 0, none⟩ = some (.bool false) := cells_left hs9 z0
  have y0' : w9.frozen? ⟨w.heap.size + 1, 0, none⟩ = false := frozen_left hs9 (by simp) y0
  have z1' : w9.cell? ⟨w.heap.size + 1, 1, none⟩ = some (.int .u64 0) := cells_left hs9 z1
  have y1' : w9.frozen? ⟨w.heap.size + 1, 1, none⟩ = false := frozen_left hs9 (by simp) y1
  have z2' : w9.cell? ⟨w.heap.size + 1, 2, none⟩ = some (.int .u64 0) := cells_left hs9 z2
  have y2' : w9.frozen? ⟨w.heap.size + 1, 2, none⟩ = false := frozen_left hs9 (by simp) y2
  have z3' : w9.cell? ⟨w.heap.size + 1, 3, none⟩ = some (.int .i64 0) := cells_left hs9 z3
  have y3' : w9.frozen? ⟨w.heap.size + 1, 3, none⟩ = false := frozen_left hs9 (by simp) y3
  have z4' : w9.cell? ⟨w.heap.size + 1, 4, none⟩ = some (.bool false) := cells_left hs9 z4
  have y4' : w9.frozen? ⟨w.heap.size + 1, 4, none⟩ = false := frozen_left hs9 (by simp) y4
  have z5' : w9.cell? ⟨w.heap.size + 1, 5, none⟩ = some (.int .i64 0) := cells_left hs9 z5
  have y5' : w9.frozen? ⟨w.heap.size + 1, 5, none⟩ = false := frozen_left hs9 (by simp) y5
  have z6' : w9.cell? ⟨w.heap.size + 1, 6, none⟩ = some (.pointer none) := cells_left hs9 z6
  have y6' : w9.frozen? ⟨w.heap.size + 1, 6, none⟩ = false := frozen_left hs9 (by simp) y6
  have z7' : w9.cell? ⟨w.heap.size + 1, 7, none⟩ = some (.pointer none) := cells_left hs9 z7
  have y7' : w9.frozen? ⟨w.heap.size + 1, 7, none⟩ = false := frozen_left hs9 (by simp) y7
  have hz : w.heap.size + 1 < w9.heap.size := by have := hs9.size; simp at this; omega
  clear m0 z0 y0 m1 z1 y1 m2 z2 y2 m3 z3 y3 m4 z4 y4 m5 z5 y5 m6 z6 y6 m7 z7 y7
  clear k0 k1 k2 k3
  go_wp2_with fail
  exact bodyPost_ret (v := .agg #[.bool m.a.v6, .int .u64 m.a.hi, .int .u64 m.a.lo, .int .i64 m.n, .bool i, .int .i64 x, .pointer pz, .pointer po]) (by simp [results, Try.results41, go_sem, z0', z1', z2', z3', z4', z5', z6', z7']) rfl ⟨rfl, ((((((((low_trans LOW hs9).setCell (by simp) _).setCell (by simp) _).setCell (by simp) _).setCell (by simp) _).setCell (by simp) _).setCell (by simp) _).setCell (by simp) _).setCell (by simp) _⟩
set_option maxHeartbeats 4000000 in
theorem over_up0 (n m : Net) (i : Bool) (x : Int) (pz po : Option Addr) (b : Nat) (w : World) (hn : Ok n) (hm : Ok m) (hv : n.a.v6 = m.a.v6) (hN : Node w b m i x pz po) (hw : withinN n m = false) (hb0 : bitA m.a (sharedN n m).n = 0) :
    Calls Try.prog 41 #[.pointer (some ⟨b, 0, none⟩), .agg #[.bool n.a.v6, .int .u64 n.a.hi, .int .u64 n.a.lo, .int .i64 n.n]] w fun e w' => e = .returned (.agg #[.bool (sharedN n m).a.v6, .int .u64 (sharedN n m).a.hi, .int .u64 (sharedN n m).a.lo, .int .i64 (sharedN n m).n, .bool false, .int .i64 0, .pointer (some ⟨b, 0, none⟩), .pointer none]) ∧ Below w.heap.size w w' := by
  have hb := hN.lt
  have LOW : Below w.heap.size w ((w.alloc (.cells #[.bool n.a.v6, .int .u64 n.a.hi, .int .u64 n.a.lo, .int .i64 n.n] 27)).alloc (.cells #[.bool false, .int .u64 0, .int .u64 0, .int .i64 0, .bool false, .int .i64 0, .pointer none, .pointer none] 63)) := two_low _ _ _
  have k0 : ((w.alloc (.cells #[.bool n.a.v6, .int .u64 n.a.hi, .int .u64 n.a.lo, .int .i64 n.n] 27)).alloc (.cells #[.bool false, .int .u64 0, .int .u64 0, .int .i64 0, .bool false, .int .i64 0, .pointer none, .pointer none] 63)).cell? ⟨w.heap.size, 0, none⟩ = some (.bool n.a.v6) := by simp [go_sem]
  have k1 : ((w.alloc (.cells #[.bool n.a.v6, .int .u64 n.a.hi, .int .u64 n.a.lo, .int .i64 n.n] 27)).alloc (.cells #[.bool false, .int .u64 0, .int .u64 0, .int .i64 0, .bool false, .int .i64 0, .pointer none, .pointer none] 63)).cell? ⟨w.heap.size, 1, none⟩ = some (.int .u64 n.a.hi) := by simp [go_sem]
  have k2 : ((w.alloc (.cells #[.bool n.a.v6, .int .u64 n.a.hi, .int .u64 n.a.lo, .int .i64 n.n] 27)).alloc (.cells #[.bool false, .int .u64 0, .int .u64 0, .int .i64 0, .bool false, .int .i64 0, .pointer none, .pointer none] 63)).cell? ⟨w.heap.size, 2, none⟩ = some (.int .u64 n.a.lo) := by simp [go_sem]
  have k3 : ((w.alloc (.cells #[.bool n.a.v6, .int .u64 n.a.hi, .int .u64 n.a.lo, .int .i64 n.n] 27)).alloc (.cells #[.bool false, .int .u64 0, .int .u64 0, .int .i64 0, .bool false, .int .i64 0, .pointer none, .pointer none] 63)).cell? ⟨w.heap.size, 3, none⟩ = some (.int .i64 n.n) := by simp [go_sem]
  have m0 : ((w.alloc (.cells #[.bool n.a.v6, .int .u64 n.a.hi, .int .u64 n.a.lo, .int .i64 n.n] 27)).alloc (.cells #[.bool false, .int .u64 0, .int .u64 0, .int .i64 0, .bool false, .int .i64 0, .pointer none, .pointer none] 63)).cell? ⟨b, 0, none⟩ = some (.bool m.a.v6) := cells_left LOW hN.c0
  have m1 : ((w.alloc (.cells #[.bool n.a.v6, .int .u64 n.a.hi, .int .u64 n.a.lo, .int .i64 n.n] 27)).alloc (.cells #[.bool false, .int .u64 0, .int .u64 0, .int .i64 0, .bool false, .int .i64 0, .pointer none, .pointer none] 63)).cell? ⟨b, 1, none⟩ = some (.int .u64 m.a.hi) := cells_left LOW hN.c1
  have m2 : ((w.alloc (.cells #[.bool n.a.v6, .int .u64 n.a.hi, .int .u64 n.a.lo, .int .i64 n.n] 27)).alloc (.cells #[.bool false, .int .u64 0, .int .u64 0, .int .i64 0, .bool false, .int .i64 0, .pointer none, .pointer none] 63)).cell? ⟨b, 2, none⟩ = some (.int .u64 m.a.lo) := cells_left LOW hN.c2
  have m3 : ((w.alloc (.cells #[.bool n.a.v6, .int .u64 n.a.hi, .int .u64 n.a.lo, .int .i64 n.n] 27)).alloc (.cells #[.bool false, .int .u64 0, .int .u64 0, .int .i64 0, .bool false, .int .i64 0, .pointer none, .pointer none] 63)).cell? ⟨b, 3, none⟩ = some (.int .i64 m.n) := cells_left LOW hN.c3
  have m4 : ((w.alloc (.cells #[.bool n.a.v6, .int .u64 n.a.hi, .int .u64 n.a.lo, .int .i64 n.n] 27)).alloc (.cells #[.bool false, .int .u64 0, .int .u64 0, .int .i64 0, .bool false, .int .i64 0, .pointer none, .pointer none] 63)).cell? ⟨b, 4, none⟩ = some (.bool i) := cells_left LOW hN.c4
  have m5 : ((w.alloc (.cells #[.bool n.a.v6, .int .u64 n.a.hi, .int .u64 n.a.lo, .int .i64 n.n] 27)).alloc (.cells #[.bool false, .int .u64 0, .int .u64 0, .int .i64 0, .bool false, .int .i64 0, .pointer none, .pointer none] 63)).cell? ⟨b, 5, none⟩ = some (.int .i64 x) := cells_left LOW hN.c5
  have m6 : ((w.alloc (.cells #[.bool n.a.v6, .int .u64 n.a.hi, .int .u64 n.a.lo, .int .i64 n.n] 27)).alloc (.cells #[.bool false, .int .u64 0, .int .u64 0, .int .i64 0, .bool false, .int .i64 0, .pointer none, .pointer none] 63)).cell? ⟨b, 6, none⟩ = some (.pointer pz) := cells_left LOW hN.c6
  have m7 : ((w.alloc (.cells #[.bool n.a.v6, .int .u64 n.a.hi, .int .u64 n.a.lo, .int .i64 n.n] 27)).alloc (.cells #[.bool false, .int .u64 0, .int .u64 0, .int .i64 0, .bool false, .int .i64 0, .pointer none, .pointer none] 63)).cell? ⟨b, 7, none⟩ = some (.pointer po) := cells_left LOW hN.c7
  have z0 : ((w.alloc (.cells #[.bool n.a.v6, .int .u64 n.a.hi, .int .u64 n.a.lo, .int .i64 n.n] 27)).alloc (.cells #[.bool false, .int .u64 0, .int .u64 0, .int .i64 0, .bool false, .int .i64 0, .pointer none, .pointer none] 63)).cell? ⟨w.heap.size + 1, 0, none⟩ = some (.bool false) := by simp [go_sem]
  have y0 : ((w.alloc (.cells #[.bool n.a.v6, .int .u64 n.a.hi, .int .u64 n.a.lo, .int .i64 n.n] 27)).alloc (.cells #[.bool false, .int .u64 0, .int .u64 0, .int .i64 0, .bool false, .int .i64 0, .pointer none, .pointer none] 63)).frozen? ⟨w.heap.size + 1, 0, none⟩ = false := by simp [go_sem]
  have z1 : ((w.alloc (.cells #[.bool n.a.v6, .int .u64 n.a.hi, .int .u64 n.a.lo, .int .i64 n.n] 27)).alloc (.cells #[.bool false, .int .u64 0, .int .u64 0, .int .i64 0, .bool false, .int .i64 0, .pointer none, .pointer none] 63)).cell? ⟨w.heap.size + 1, 1, none⟩ = some (.int .u64 0) := by simp [go_sem]
  have y1 : ((w.alloc (.cells #[.bool n.a.v6, .int .u64 n.a.hi, .int .u64 n.a.lo, .int .i64 n.n] 27)).alloc (.cells #[.bool false, .int .u64 0, .int .u64 0, .int .i64 0, .bool false, .int .i64 0, .pointer none, .pointer none] 63)).frozen? ⟨w.heap.size + 1, 1, none⟩ = false := by simp [go_sem]
  have z2 : ((w.alloc (.cells #[.bool n.a.v6, .int .u64 n.a.hi, .int .u64 n.a.lo, .int .i64 n.n] 27)).alloc (.cells #[.bool false, .int .u64 0, .int .u64 0, .int .i64 0, .bool false, .int .i64 0, .pointer none, .pointer none] 63)).cell? ⟨w.heap.size + 1, 2, none⟩ = some (.int .u64 0) := by simp [go_sem]
  have y2 : ((w.alloc (.cells #[.bool n.a.v6, .int .u64 n.a.hi, .int .u64 n.a.lo, .int .i64 n.n] 27)).alloc (.cells #[.bool false, .int .u64 0, .int .u64 0, .int .i64 0, .bool false, .int .i64 0, .pointer none, .pointer none] 63)).frozen? ⟨w.heap.size + 1, 2, none⟩ = false := by simp [go_sem]
  have z3 : ((w.alloc (.cells #[.bool n.a.v6, .int .u64 n.a.hi, .int .u64 n.a.lo, .int .i64 n.n] 27)).alloc (.cells #[.bool false, .int .u64 0, .int .u64 0, .int .i64 0, .bool false, .int .i64 0, .pointer none, .pointer none] 63)).cell? ⟨w.heap.size + 1, 3, none⟩ = some (.int .i64 0) := by simp [go_sem]
  have y3 : ((w.alloc (.cells #[.bool n.a.v6, .int .u64 n.a.hi, .int .u64 n.a.lo, .int .i64 n.n] 27)).alloc (.cells #[.bool false, .int .u64 0, .int .u64 0, .int .i64 0, .bool false, .int .i64 0, .pointer none, .pointer none] 63)).frozen? ⟨w.heap.size + 1, 3, none⟩ = false := by simp [go_sem]
  have z4 : ((w.alloc (.cells #[.bool n.a.v6, .int .u64 n.a.hi, .int .u64 n.a.lo, .int .i64 n.n] 27)).alloc (.cells #[.bool false, .int .u64 0, .int .u64 0, .int .i64 0, .bool false, .int .i64 0, .pointer none, .pointer none] 63)).cell? ⟨w.heap.size + 1, 4, none⟩ = some (.bool false) := by simp [go_sem]
  have y4 : ((w.alloc (.cells #[.bool n.a.v6, .int .u64 n.a.hi, .int .u64 n.a.lo, .int .i64 n.n] 27)).alloc (.cells #[.bool false, .int .u64 0, .int .u64 0, .int .i64 0, .bool false, .int .i64 0, .pointer none, .pointer none] 63)).frozen? ⟨w.heap.size + 1, 4, none⟩ = false := by simp [go_sem]
  have z5 : ((w.alloc (.cells #[.bool n.a.v6, .int .u64 n.a.hi, .int .u64 n.a.lo, .int .i64 n.n] 27)).alloc (.cells #[.bool false, .int .u64 0, .int .u64 0, .int .i64 0, .bool false, .int .i64 0, .pointer none, .pointer none] 63)).cell? ⟨w.heap.size + 1, 5, none⟩ = some (.int .i64 0) := by simp [go_sem]
  have y5 : ((w.alloc (.cells #[.bool n.a.v6, .int .u64 n.a.hi, .int .u64 n.a.lo, .int .i64 n.n] 27)).alloc (.cells #[.bool false, .int .u64 0, .int .u64 0, .int .i64 0, .bool false, .int .i64 0, .pointer none, .pointer none] 63)).frozen? ⟨w.heap.size + 1, 5, none⟩ = false := by simp [go_sem]
  have z6 : ((w.alloc (.cells #[.bool n.a.v6, .int .u64 n.a.hi, .int .u64 n.a.lo, .int .i64 n.n] 27)).alloc (.cells #[.bool false, .int .u64 0, .int .u64 0, .int .i64 0, .bool false, .int .i64 0, .pointer none, .pointer none] 63)).cell? ⟨w.heap.size + 1, 6, none⟩ = some (.pointer none) := by simp [go_sem]
  have y6 : ((w.alloc (.cells #[.bool n.a.v6, .int .u64 n.a.hi, .int .u64 n.a.lo, .int .i64 n.n] 27)).alloc (.cells #[.bool false, .int .u64 0, .int .u64 0, .int .i64 0, .bool false, .int .i64 0, .pointer none, .pointer none] 63)).frozen? ⟨w.heap.size + 1, 6, none⟩ = false := by simp [go_sem]
  have z7 : ((w.alloc (.cells #[.bool n.a.v6, .int .u64 n.a.hi, .int .u64 n.a.lo, .int .i64 n.n] 27)).alloc (.cells #[.bool false, .int .u64 0, .int .u64 0, .int .i64 0, .bool false, .int .i64 0, .pointer none, .pointer none] 63)).cell? ⟨w.heap.size + 1, 7, none⟩ = some (.pointer none) := by simp [go_sem]
  have y7 : ((w.alloc (.cells #[.bool n.a.v6, .int .u64 n.a.hi, .int .u64 n.a.lo, .int .i64 n.n] 27)).alloc (.cells #[.bool false, .int .u64 0, .int .u64 0, .int .i64 0, .bool false, .int .i64 0, .pointer none, .pointer none] 63)).frozen? ⟨w.heap.size + 1, 7, none⟩ = false := by simp [go_sem]
  have K1 : Hid (∀ W0, Stays ((w.alloc (.cells #[.bool n.a.v6, .int .u64 n.a.hi, .int .u64 n.a.lo, .int .i64 n.n] 27)).alloc (.cells #[.bool false, .int .u64 0, .int .u64 0, .int .i64 0, .bool false, .int .i64 0, .pointer none, .pointer none] 63)) W0 → Calls Try.prog 45 #[.agg #[.bool n.a.v6, .int .u64 n.a.hi, .int .u64 n.a.lo, .int .i64 n.n], .agg #[.bool m.a.v6, .int .u64 m.a.hi, .int .u64 m.a.lo, .int .i64 m.n]] W0 fun e w' => e = .returned (.bool false) ∧ Stays ((w.alloc (.cells #[.bool n.a.v6, .int .u64 n.a.hi, .int .u64 n.a.lo, .int .i64 n.n] 27)).alloc (.cells #[.bool false, .int .u64 0, .int .u64 0, .int .i64 0, .bool false, .int .i64 0, .pointer none, .pointer none] 63)) w') := Lib.hid (keep_call fun W0 => by have := within_any n m W0 hn.ok hm.ok; rw [hw] at this; exact this)
  have SH := Lib.hid (fun W => shared_any n m W hn hm hv)
  have HS := (shared_is (n := m) hn).2
  have HF := Lib.hid (fun W c (hc : W.cell? ⟨c, 3, none⟩ = some (.int .i64 (sharedN n m).n)) => half_any c (sharedN n m) m.a W hc HS.ok hm.ok.1)
  rw [hb0] at HF
  generalize sharedN n m = s at HS SH HF ⊢
  clear hw hb0 hv
  go_enter Try.func41, Try.ntmps41
  go_wp2_with fail
  have hne : Nonempty (Cls (Stays ((w.alloc (.cells #[.bool n.a.v6, .int .u64 n.a.hi, .int .u64 n.a.lo, .int .i64 n.n] 27)).alloc (.cells #[.bool false, .int .u64 0, .int .u64 0, .int .i64 0, .bool false, .int .i64 0, .pointer none, .pointer none] 63)))) := ⟨⟨_, Below.refl _ _⟩⟩
  have f0 : ∀ q : Cls (Stays ((w.alloc (.cells #[.bool n.a.v6, .int .u64 n.a.hi, .int .u64 n.a.lo, .int .i64 n.n] 27)).alloc (.cells #[.bool false, .int .u64 0, .int .u64 0, .int .i64 0, .bool false, .int .i64 0, .pointer none, .pointer none] 63))), q.w.cell? ⟨w.heap.size, 0, none⟩ = some (.bool n.a.v6) := fun q => cells_left q.h (k0)
  have f1 : ∀ q : Cls (Stays ((w.alloc (.cells #[.bool n.a.v6, .int .u64 n.a.hi, .int .u64 n.a.lo, .int .i64 n.n] 27)).alloc (.cells #[.bool false, .int .u64 0, .int .u64 0, .int .i64 0, .bool false, .int .i64 0, .pointer none, .pointer none] 63))), q.w.cell? ⟨w.heap.size, 1, none⟩ = some (.int .u64 n.a.hi) := fun q => cells_left q.h (k1)
  have f2 : ∀ q : Cls (Stays ((w.alloc (.cells #[.bool n.a.v6, .int .u64 n.a.hi, .int .u64 n.a.lo, .int .i64 n.n] 27)).alloc (.cells #[.bool false, .int .u64 0, .int .u64 0, .int .i64 0, .bool false, .int .i64 0, .pointer none, .pointer none] 63))), q.w.cell? ⟨w.heap.size, 2, none⟩ = some (.int .u64 n.a.lo) := fun q => cells_left q.h (k2)
  have f3 : ∀ q : Cls (Stays ((w.alloc (.cells #[.bool n.a.v6, .int .u64 n.a.hi, .int .u64 n.a.lo, .int .i64 n.n] 27)).alloc (.cells #[.bool false, .int .u64 0, .int .u64 0, .int .i64 0, .bool false, .int .i64 0, .pointer none, .pointer none] 63))), q.w.cell? ⟨w.heap.size, 3, none⟩ = some (.int .i64 n.n) := fun q => cells_left q.h (k3)
  have f4 : ∀ q : Cls (Stays ((w.alloc (.cells #[.bool n.a.v6, .int .u64 n.a.hi, .int .u64 n.a.lo, .int .i64 n.n] 27)).alloc (.cells #[.bool false, .int .u64 0, .int .u64 0, .int .i64 0, .bool false, .int .i64 0, .pointer none, .pointer none] 63))), q.w.cell? ⟨b, 0, none⟩ = some (.bool m.a.v6) := fun q => cells_left q.h (m0)
  have f5 : ∀ q : Cls (Stays ((w.alloc (.cells #[.bool n.a.v6, .int .u64 n.a.hi, .int .u64 n.a.lo, .int .i64 n.n] 27)).alloc (.cells #[.bool false, .int .u64 0, .int .u64 0, .int .i64 0, .bool false, .int .i64 0, .pointer none, .pointer none] 63))), q.w.cell? ⟨b, 1, none⟩ = some (.int .u64 m.a.hi) := fun q => cells_left q.h (m1)
  have f6 : ∀ q : Cls (Stays ((w.alloc (.cells #[.bool n.a.v6, .int .u64 n.a.hi, .int .u64 n.a.lo, .int .i64 n.n] 27)).alloc (.cells #[.bool false, .int .u64 0, .int .u64 0, .int .i64 0, .bool false, .int .i64 0, .pointer none, .pointer none] 63))), q.w.cell? ⟨b, 2, none⟩ = some (.int .u64 m.a.lo) := fun q => cells_left q.h (m2)
  have f7 : ∀ q : Cls (Stays ((w.alloc (.cells #[.bool n.a.v6, .int .u64 n.a.hi, .int .u64 n.a.lo, .int .i64 n.n] 27)).alloc (.cells #[.bool false, .int .u64 0, .int .u64 0, .int .i64 0, .bool false, .int .i64 0, .pointer none, .pointer none] 63))), q.w.cell? ⟨b, 3, none⟩ = some (.int .i64 m.n) := fun q => cells_left q.h (m3)
  refine Cls.region (Stays ((w.alloc (.cells #[.bool n.a.v6, .int .u64 n.a.hi, .int .u64 n.a.lo, .int .i64 n.n] 27)).alloc (.cells #[.bool false, .int .u64 0, .int .u64 0, .int .i64 0, .bool false, .int .i64 0, .pointer none, .pointer none] 63))) (by kernel_rfl) (by kernel_rfl) (low_drewN (Below.refl _ _) 1) ?_
  repeat (go_big_quiet_step (first | fail | (with_reducible exact Cls.call (K1.out _ (Cls.h _)))))
  refine wpQuiet_nil ?_
  intro n9
  have hs9 := n9.h
  generalize n9.w = w9 at hs9 ⊢
  clear hne n9 f0 f1 f2 f3 f4 f5 f6 f7
  have m0' : w9.cell? ⟨b, 0, none⟩ = some (.bool m.a.v6) := cells_left hs9 m0
  have m1' : w9.cell? ⟨b, 1, none⟩ = some (.int .u64 m.a.hi) := cells_left hs9 m1
  have m2' : w9.cell? ⟨b, 2, none⟩ = some (.int .u64 m.a.lo) := cells_left hs9 m2
  have m3' : w9.cell? ⟨b, 3, none⟩ = some (.int .i64 m.n) := cells_left hs9 m3
  have m4' : w9.cell? ⟨b, 4, none⟩ = some (.bool i) := cells_left hs9 m4
  have m5' : w9.cell? ⟨b, 5, none⟩ = some (.int .i64 x) := cells_left hs9 m5
  have m6' : w9.cell? ⟨b, 6, none⟩ = some (.pointer pz) := cells_left hs9 m6
  have m7' : w9.cell? ⟨b, 7, none⟩ = some (.pointer po) := cells_left hs9 m7
  have k0' : w9.cell? ⟨w.heap.size, 0, none⟩ = some (.bool n.a.v6) := cells_left hs9 k0
  have k1' : w9.cell? ⟨w.heap.size, 1, none⟩ = some (.int .u64 n.a.hi) := cells_left hs9 k1
  have k2' : w9.cell? ⟨w.heap.size, 2, none⟩ = some (.int .u64 n.a.lo) := cells_left hs9 k2
  have k3' : w9.cell? ⟨w.heap.size, 3, none⟩ = some (.int .i64 n.n) := cells_left hs9 k3
  have z0' : w9.cell? ⟨w.heap.size + 1, 0, none⟩ = some (.bool false) := cells_left hs9 z0
  have y0' : w9.frozen? ⟨w.heap.size + 1, 0, none⟩ = false := frozen_left hs9 (by simp) y0
  have z1' : w9.cell? ⟨w.heap.size + 1, 1, none⟩ = some (.int .u64 0) := cells_left hs9 z1
  have y1' : w9.frozen? ⟨w.heap.size + 1, 1, none⟩ = false := frozen_left hs9 (by simp) y1
  have z2' : w9.cell? ⟨w.heap.size + 1, 2, none⟩ = some (.int .u64 0) := cells_left hs9 z2
  have y2' : w9.frozen? ⟨w.heap.size + 1, 2, none⟩ = false := frozen_left hs9 (by simp) y2
  have z3' : w9.cell? ⟨w.heap.size + 1, 3, none⟩ = some (.int .i64 0) := cells_left hs9 z3
  have y3' : w9.frozen? ⟨w.heap.size + 1, 3, none⟩ = false := frozen_left hs9 (by simp) y3
  have z4' : w9.cell? ⟨w.heap.size + 1, 4, none⟩ = some (.bool false) := cells_left hs9 z4
  have y4' : w9.frozen? ⟨w.heap.size + 1, 4, none⟩ = false := frozen_left hs9 (by simp) y4
  have z5' : w9.cell? ⟨w.heap.size + 1, 5, none⟩ = some (.int .i64 0) := cells_left hs9 z5
  have y5' : w9.frozen? ⟨w.heap.size + 1, 5, none⟩ = false := frozen_left hs9 (by simp) y5
  have z6' : w9.cell? ⟨w.heap.size + 1, 6, none⟩ = some (.pointer none) := cells_left hs9 z6
  have y6' : w9.frozen? ⟨w.heap.size + 1, 6, none⟩ = false := frozen_left hs9 (by simp) y6
  have z7' : w9.cell? ⟨w.heap.size + 1, 7, none⟩ = some (.pointer none) := cells_left hs9 z7
  have y7' : w9.frozen? ⟨w.heap.size + 1, 7, none⟩ = false := frozen_left hs9 (by simp) y7
  have hz : w.heap.size + 1 < w9.heap.size := by have := hs9.size; simp at this; omega
  clear m0 z0 y0 m1 z1 y1 m2 z2 y2 m3 z3 y3 m4 z4 y4 m5 z5 y5 m6 z6 y6 m7 z7 y7
  clear k0 k1 k2 k3
  have SA : ∀ W, Stays w9 W → (fun w' => w'.cell? ⟨w.heap.size, 0, none⟩ = some (.bool n.a.v6) ∧ w'.cell? ⟨w.heap.size, 1, none⟩ = some (.int .u64 n.a.hi) ∧ w'.cell? ⟨w.heap.size, 2, none⟩ = some (.int .u64 n.a.lo) ∧ w'.cell? ⟨w.heap.size, 3, none⟩ = some (.int .i64 n.n) ∧ w'.cell? ⟨b, 0, none⟩ = some (.bool m.a.v6) ∧ w'.cell? ⟨b, 1, none⟩ = some (.int .u64 m.a.hi) ∧ w'.cell? ⟨b, 2, none⟩ = some (.int .u64 m.a.lo) ∧ w'.cell? ⟨b, 3, none⟩ = some (.int .i64 m.n) ∧ Stays w9 w') W := fun W h => ⟨cells_left h k0', cells_left h k1', cells_left h k2', cells_left h k3', cells_left h m0', cells_left h m1', cells_left h m2', cells_left h m3', h⟩
  have JD : Hid (∀ W, (fun w' => w'.cell? ⟨w.heap.size, 0, none⟩ = some (.bool n.a.v6) ∧ w'.cell? ⟨w.heap.size, 1, none⟩ = some (.int .u64 n.a.hi) ∧ w'.cell? ⟨w.heap.size, 2, none⟩ = some (.int .u64 n.a.lo) ∧ w'.cell? ⟨w.heap.size, 3, none⟩ = some (.int .i64 n.n) ∧ w'.cell? ⟨b, 0, none⟩ = some (.bool m.a.v6) ∧ w'.cell? ⟨b, 1, none⟩ = some (.int .u64 m.a.hi) ∧ w'.cell? ⟨b, 2, none⟩ = some (.int .u64 m.a.lo) ∧ w'.cell? ⟨b, 3, none⟩ = some (.int .i64 m.n) ∧ Stays w9 w') W → (fun w' => w'.cell? ⟨w.heap.size, 0, none⟩ = some (.bool n.a.v6) ∧ w'.cell? ⟨w.heap.size, 1, none⟩ = some (.int .u64 n.a.hi) ∧ w'.cell? ⟨w.heap.size, 2, none⟩ = some (.int .u64 n.a.lo) ∧ w'.cell? ⟨w.heap.size, 3, none⟩ = some (.int .i64 n.n) ∧ w'.cell? ⟨b, 0, none⟩ = some (.bool m.a.v6) ∧ w'.cell? ⟨b, 1, none⟩ = some (.int .u64 m.a.hi) ∧ w'.cell? ⟨b, 2, none⟩ = some (.int .u64 m.a.lo) ∧ w'.cell? ⟨b, 3, none⟩ = some (.int .i64 m.n) ∧ Stays w9 w') W.drew) := Lib.hid fun W h => SA _ (low_drewN h.2.2.2.2.2.2.2.2 1)
  have JA : Hid (∀ W o, (fun w' => w'.cell? ⟨w.heap.size, 0, none⟩ = some (.bool n.a.v6) ∧ w'.cell? ⟨w.heap.size, 1, none⟩ = some (.int .u64 n.a.hi) ∧ w'.cell? ⟨w.heap.size, 2, none⟩ = some (.int .u64 n.a.lo) ∧ w'.cell? ⟨w.heap.size, 3, none⟩ = some (.int .i64 n.n) ∧ w'.cell? ⟨b, 0, none⟩ = some (.bool m.a.v6) ∧ w'.cell? ⟨b, 1, none⟩ = some (.int .u64 m.a.hi) ∧ w'.cell? ⟨b, 2, none⟩ = some (.int .u64 m.a.lo) ∧ w'.cell? ⟨b, 3, none⟩ = some (.int .i64 m.n) ∧ Stays w9 w') W → (fun w' => w'.cell? ⟨w.heap.size, 0, none⟩ = some (.bool n.a.v6) ∧ w'.cell? ⟨w.heap.size, 1, none⟩ = some (.int .u64 n.a.hi) ∧ w'.cell? ⟨w.heap.size, 2, none⟩ = some (.int .u64 n.a.lo) ∧ w'.cell? ⟨w.heap.size, 3, none⟩ = some (.int .i64 n.n) ∧ w'.cell? ⟨b, 0, none⟩ = some (.bool m.a.v6) ∧ w'.cell? ⟨b, 1, none⟩ = some (.int .u64 m.a.hi) ∧ w'.cell? ⟨b, 2, none⟩ = some (.int .u64 m.a.lo) ∧ w'.cell? ⟨b, 3, none⟩ = some (.int .i64 m.n) ∧ Stays w9 w') (W.alloc o)) := Lib.hid fun W o h => SA _ (Below.alloc h.2.2.2.2.2.2.2.2 (Below.size h.2.2.2.2.2.2.2.2) o)
  have JS : Hid (∀ W c j u, (fun w' => w'.cell? ⟨w.heap.size, 0, none⟩ = some (.bool n.a.v6) ∧ w'.cell? ⟨w.heap.size, 1, none⟩ = some (.int .u64 n.a.hi) ∧ w'.cell? ⟨w.heap.size, 2, none⟩ = some (.int .u64 n.a.lo) ∧ w'.cell? ⟨w.heap.size, 3, none⟩ = some (.int .i64 n.n) ∧ w'.cell? ⟨b, 0, none⟩ = some (.bool m.a.v6) ∧ w'.cell? ⟨b, 1, none⟩ = some (.int .u64 m.a.hi) ∧ w'.cell? ⟨b, 2, none⟩ = some (.int .u64 m.a.lo) ∧ w'.cell? ⟨b, 3, none⟩ = some (.int .i64 m.n) ∧ Stays w9 w') W → w9.heap.size ≤ c → (fun w' => w'.cell? ⟨w.heap.size, 0, none⟩ = some (.bool n.a.v6) ∧ w'.cell? ⟨w.heap.size, 1, none⟩ = some (.int .u64 n.a.hi) ∧ w'.cell? ⟨w.heap.size, 2, none⟩ = some (.int .u64 n.a.lo) ∧ w'.cell? ⟨w.heap.size, 3, none⟩ = some (.int .i64 n.n) ∧ w'.cell? ⟨b, 0, none⟩ = some (.bool m.a.v6) ∧ w'.cell? ⟨b, 1, none⟩ = some (.int .u64 m.a.hi) ∧ w'.cell? ⟨b, 2, none⟩ = some (.int .u64 m.a.lo) ∧ w'.cell? ⟨b, 3, none⟩ = some (.int .i64 m.n) ∧ Stays w9 w') (W.setCell ⟨c, j, none⟩ u)) := Lib.hid fun W c j u h hc => SA _ (Below.setCell h.2.2.2.2.2.2.2.2 (p := ⟨c, j, none⟩) hc u)
  have SH2 : Hid (∀ W, (fun w' => w'.cell? ⟨w.heap.size, 0, none⟩ = some (.bool n.a.v6) ∧ w'.cell? ⟨w.heap.size, 1, none⟩ = some (.int .u64 n.a.hi) ∧ w'.cell? ⟨w.heap.size, 2, none⟩ = some (.int .u64 n.a.lo) ∧ w'.cell? ⟨w.heap.size, 3, none⟩ = some (.int .i64 n.n) ∧ w'.cell? ⟨b, 0, none⟩ = some (.bool m.a.v6) ∧ w'.cell? ⟨b, 1, none⟩ = some (.int .u64 m.a.hi) ∧ w'.cell? ⟨b, 2, none⟩ = some (.int .u64 m.a.lo) ∧ w'.cell? ⟨b, 3, none⟩ = some (.int .i64 m.n) ∧ Stays w9 w') W → Calls Try.prog 46 #[.agg #[.bool n.a.v6, .int .u64 n.a.hi, .int .u64 n.a.lo, .int .i64 n.n], .agg #[.bool m.a.v6, .int .u64 m.a.hi, .int .u64 m.a.lo, .int .i64 m.n]] W fun e w' => e = .returned (.agg #[.bool s.a.v6, .int .u64 s.a.hi, .int .u64 s.a.lo, .int .i64 s.n]) ∧ Below W.heap.size W w' ∧ (fun w' => w'.cell? ⟨w.heap.size, 0, none⟩ = some (.bool n.a.v6) ∧ w'.cell? ⟨w.heap.size, 1, none⟩ = some (.int .u64 n.a.hi) ∧ w'.cell? ⟨w.heap.size, 2, none⟩ = some (.int .u64 n.a.lo) ∧ w'.cell? ⟨w.heap.size, 3, none⟩ = some (.int .i64 n.n) ∧ w'.cell? ⟨b, 0, none⟩ = some (.bool m.a.v6) ∧ w'.cell? ⟨b, 1, none⟩ = some (.int .u64 m.a.hi) ∧ w'.cell? ⟨b, 2, none⟩ = some (.int .u64 m.a.lo) ∧ w'.cell? ⟨b, 3, none⟩ = some (.int .i64 m.n) ∧ Stays w9 w') w') := Lib.hid fun W h => (SH.out W).mono fun e w' ⟨he, hb⟩ => ⟨he, hb, SA _ (low_trans h.2.2.2.2.2.2.2.2 hb)⟩
  have hs0 := SA w9 (Below.refl _ _)
  have SA2 := Lib.hid SA
  clear SA
  go_upto_region 5 with fail
  go_cut [5] (fun s5 wx => ∃ g : Nat, s5 = .pointer (some ⟨g, 0, none⟩) ∧ w9.heap.size ≤ g ∧ Own wx g 63 [.bool s.a.v6, .int .u64 s.a.hi, .int .u64 s.a.lo, .int .i64 s.n, .bool false, .int .i64 0, .pointer none, .pointer none] ∧ Stays w9 wx)
  case first =>
    go_region_held3 (fun w' => w'.cell? ⟨w.heap.size, 0, none⟩ = some (.bool n.a.v6) ∧ w'.cell? ⟨w.heap.size, 1, none⟩ = some (.int .u64 n.a.hi) ∧ w'.cell? ⟨w.heap.size, 2, none⟩ = some (.int .u64 n.a.lo) ∧ w'.cell? ⟨w.heap.size, 3, none⟩ = some (.int .i64 n.n) ∧ w'.cell? ⟨b, 0, none⟩ = some (.bool m.a.v6) ∧ w'.cell? ⟨b, 1, none⟩ = some (.int .u64 m.a.hi) ∧ w'.cell? ⟨b, 2, none⟩ = some (.int .u64 m.a.lo) ∧ w'.cell? ⟨b, 3, none⟩ = some (.int .i64 m.n) ∧ Stays w9 w')
      (first | (with_reducible assumption) | (with_reducible exact JD.out _ (by assumption)) | (with_reducible exact JA.out _ _ (by assumption)) | (with_reducible exact JD.out _ (JA.out _ _ (by assumption))) | ((iterate 8 (with_reducible refine JS.out _ _ _ _ ?_ (by first | exact Nat.le_refl _ | simp))); (with_reducible assumption)))
      (first
        | (go_at_call 46; (with_reducible refine (SH2.out _ (by assumption)).mono ?_); rintro e w8 ⟨rfl, hb8, hk8⟩; obtain ⟨hc8, hf8⟩ := old hb8))
    · have hs8 : Stays w9 w8 := hk8.2.2.2.2.2.2.2.2
      go_wp2_with fail
      go_meet
      exact ⟨w8.heap.size, rfl, hs8.size, Own.new w8 _ _, Below.alloc hs8 hs8.size _⟩
    · have hs8 : Stays w9 w8 := hk8.2.2.2.2.2.2.2.2
      have ho := (show Own (w9.alloc (.cells #[.bool false, .int .u64 0, .int .u64 0, .int .i64 0, .bool false, .int .i64 0, .pointer none, .pointer none] 63)).drew w9.heap.size 63 [.bool false, .int .u64 0, .int .u64 0, .int .i64 0, .bool false, .int .i64 0, .pointer none, .pointer none] from Own.new w9 _ _).on hb8
      go_wp2_with fail
      go_meet
      exact ⟨w9.heap.size, rfl, Nat.le_refl _, (((((((ho.set 0 _).set 1 _).set 2 _).set 3 _).set 4 _).set 5 _).set 6 _).set 7 _, (((((((hs8.setCell (Nat.le_refl _) _).setCell (Nat.le_refl _) _).setCell (Nat.le_refl _) _).setCell (Nat.le_refl _) _).setCell (Nat.le_refl _) _).setCell (Nat.le_refl _) _).setCell (Nat.le_refl _) _).setCell (Nat.le_refl _) _⟩
  case rest =>
    obtain ⟨g, rfl, hg1, hown, hsx⟩ := hcut
    have hlow := low_trans LOW (low_trans hs9 hsx)
    have g0 : wc.cell? ⟨g, 0, none⟩ = some (.bool s.a.v6) := hown.cell rfl
    have h0 : wc.frozen? ⟨g, 0, none⟩ = false := hown.free _
    have g1 : wc.cell? ⟨g, 1, none⟩ = some (.int .u64 s.a.hi) := hown.cell rfl
    have h1 : wc.frozen? ⟨g, 1, none⟩ = false := hown.free _
    have g2 : wc.cell? ⟨g, 2, none⟩ = some (.int .u64 s.a.lo) := hown.cell rfl
    have h2 : wc.frozen? ⟨g, 2, none⟩ = false := hown.free _
    have g3 : wc.cell? ⟨g, 3, none⟩ = some (.int .i64 s.n) := hown.cell rfl
    have h3 : wc.frozen? ⟨g, 3, none⟩ = false := hown.free _
    have g4 : wc.cell? ⟨g, 4, none⟩ = some (.bool false) := hown.cell rfl
    have h4 : wc.frozen? ⟨g, 4, none⟩ = false := hown.free _
    have g5 : wc.cell? ⟨g, 5, none⟩ = some (.int .i64 0) := hown.cell rfl
    have h5 : wc.frozen? ⟨g, 5, none⟩ = false := hown.free _
    have g6 : wc.cell? ⟨g, 6, none⟩ = some (.pointer none) := hown.cell rfl
    have h6 : wc.frozen? ⟨g, 6, none⟩ = false := hown.free _
    have g7 : wc.cell? ⟨g, 7, none⟩ = some (.pointer none) := hown.cell rfl
    have h7 : wc.frozen? ⟨g, 7, none⟩ = false := hown.free _
    have m0'' : wc.cell? ⟨b, 0, none⟩ = some (.bool m.a.v6) := cells_left hsx m0'
    have m1'' : wc.cell? ⟨b, 1, none⟩ = some (.int .u64 m.a.hi) := cells_left hsx m1'
    have m2'' : wc.cell? ⟨b, 2, none⟩ = some (.int .u64 m.a.lo) := cells_left hsx m2'
    have m3'' : wc.cell? ⟨b, 3, none⟩ = some (.int .i64 m.n) := cells_left hsx m3'
    have z0'' : wc.cell? ⟨w.heap.size + 1, 0, none⟩ = some (.bool false) := cells_left hsx z0'
    have y0'' : wc.frozen? ⟨w.heap.size + 1, 0, none⟩ = false := frozen_left hsx hz y0'
    have z1'' : wc.cell? ⟨w.heap.size + 1, 1, none⟩ = some (.int .u64 0) := cells_left hsx z1'
    have y1'' : wc.frozen? ⟨w.heap.size + 1, 1, none⟩ = false := frozen_left hsx hz y1'
    have z2'' : wc.cell? ⟨w.heap.size + 1, 2, none⟩ = some (.int .u64 0) := cells_left hsx z2'
    have y2'' : wc.frozen? ⟨w.heap.size + 1, 2, none⟩ = false := frozen_left hsx hz y2'
    have z3'' : wc.cell? ⟨w.heap.size + 1, 3, none⟩ = some (.int .i64 0) := cells_left hsx z3'
    have y3'' : wc.frozen? ⟨w.heap.size + 1, 3, none⟩ = false := frozen_left hsx hz y3'
    have z4'' : wc.cell? ⟨w.heap.size + 1, 4, none⟩ = some (.bool false) := cells_left hsx z4'
    have y4'' : wc.frozen? ⟨w.heap.size + 1, 4, none⟩ = false := frozen_left hsx hz y4'
    have z5'' : wc.cell? ⟨w.heap.size + 1, 5, none⟩ = some (.int .i64 0) := cells_left hsx z5'
    have y5'' : wc.frozen? ⟨w.heap.size + 1, 5, none⟩ = false := frozen_left hsx hz y5'
    have z6'' : wc.cell? ⟨w.heap.size + 1, 6, none⟩ = some (.pointer none) := cells_left hsx z6'
    have y6'' : wc.frozen? ⟨w.heap.size + 1, 6, none⟩ = false := frozen_left hsx hz y6'
    have z7'' : wc.cell? ⟨w.heap.size + 1, 7, none⟩ = some (.pointer none) := cells_left hsx z7'
    have y7'' : wc.frozen? ⟨w.heap.size + 1, 7, none⟩ = false := frozen_left hsx hz y7'
    have HF1 := Lib.hid (HF.out wc g g3)
    go_wp2_with fail
    ((with_reducible refine (HF1.out).mono ?_); rintro e w7 ⟨rfl, hb7⟩)
    have hzc : w.heap.size + 1 < wc.heap.size := by have := hsx.size; omega
    have hgz : ¬ g = w.heap.size + 1 := by omega
    have hgz2 : ¬ w.heap.size + 1 = g := by omega
    have ho7 := hown.on hb7
    have gg0 : w7.cell? ⟨g, 0, none⟩ = some (.bool s.a.v6) := ho7.cell rfl
    have hh0 : w7.frozen? ⟨g, 0, none⟩ = false := ho7.free _
    have gg1 : w7.cell? ⟨g, 1, none⟩ = some (.int .u64 s.a.hi) := ho7.cell rfl
    have hh1 : w7.frozen? ⟨g, 1, none⟩ = false := ho7.free _
    have gg2 : w7.cell? ⟨g, 2, none⟩ = some (.int .u64 s.a.lo) := ho7.cell rfl
    have hh2 : w7.frozen? ⟨g, 2, none⟩ = false := ho7.free _
    have gg3 : w7.cell? ⟨g, 3, none⟩ = some (.int .i64 s.n) := ho7.cell rfl
    have hh3 : w7.frozen? ⟨g, 3, none⟩ = false := ho7.free _
    have gg4 : w7.cell? ⟨g, 4, none⟩ = some (.bool false) := ho7.cell rfl
    have hh4 : w7.frozen? ⟨g, 4, none⟩ = false := ho7.free _
    have gg5 : w7.cell? ⟨g, 5, none⟩ = some (.int .i64 0) := ho7.cell rfl
    have hh5 : w7.frozen? ⟨g, 5, none⟩ = false := ho7.free _
    have gg6 : w7.cell? ⟨g, 6, none⟩ = some (.pointer none) := ho7.cell rfl
    have hh6 : w7.frozen? ⟨g, 6, none⟩ = false := ho7.free _
    have gg7 : w7.cell? ⟨g, 7, none⟩ = some (.pointer none) := ho7.cell rfl
    have hh7 : w7.frozen? ⟨g, 7, none⟩ = false := ho7.free _
    have zz0 : w7.cell? ⟨w.heap.size + 1, 0, none⟩ = some (.bool false) := cells_left hb7 z0''
    have yy0 : w7.frozen? ⟨w.heap.size + 1, 0, none⟩ = false := frozen_left hb7 hzc y0''
    have zz1 : w7.cell? ⟨w.heap.size + 1, 1, none⟩ = some (.int .u64 0) := cells_left hb7 z1''
    have yy1 : w7.frozen? ⟨w.heap.size + 1, 1, none⟩ = false := frozen_left hb7 hzc y1''
    have zz2 : w7.cell? ⟨w.heap.size + 1, 2, none⟩ = some (.int .u64 0) := cells_left hb7 z2''
    have yy2 : w7.frozen? ⟨w.heap.size + 1, 2, none⟩ = false := frozen_left hb7 hzc y2''
    have zz3 : w7.cell? ⟨w.heap.size + 1, 3, none⟩ = some (.int .i64 0) := cells_left hb7 z3''
    have yy3 : w7.frozen? ⟨w.heap.size + 1, 3, none⟩ = false := frozen_left hb7 hzc y3''
    have zz4 : w7.cell? ⟨w.heap.size + 1, 4, none⟩ = some (.bool false) := cells_left hb7 z4''
    have yy4 : w7.frozen? ⟨w.heap.size + 1, 4, none⟩ = false := frozen_left hb7 hzc y4''
    have zz5 : w7.cell? ⟨w.heap.size + 1, 5, none⟩ = some (.int .i64 0) := cells_left hb7 z5''
    have yy5 : w7.frozen? ⟨w.heap.size + 1, 5, none⟩ = false := frozen_left hb7 hzc y5''
    have zz6 : w7.cell? ⟨w.heap.size + 1, 6, none⟩ = some (.pointer none) := cells_left hb7 z6''
    have yy6 : w7.frozen? ⟨w.heap.size + 1, 6, none⟩ = false := frozen_left hb7 hzc y6''
    have zz7 : w7.cell? ⟨w.heap.size + 1, 7, none⟩ = some (.pointer none) := cells_left hb7 z7''
    have yy7 : w7.frozen? ⟨w.heap.size + 1, 7, none⟩ = false := frozen_left hb7 hzc y7''
    clear g0 h0 z0'' y0'' g1 h1 z1'' y1'' g2 h2 z2'' y2'' g3 h3 z3'' y3'' g4 h4 z4'' y4'' g5 h5 z5'' y5'' g6 h6 z6'' y6'' g7 h7 z7'' y7''
    go_wp2_with fail
    exact bodyPost_ret (v := .agg #[.bool s.a.v6, .int .u64 s.a.hi, .int .u64 s.a.lo, .int .i64 s.n, .bool false, .int .i64 0, .pointer (some ⟨b, 0, none⟩), .pointer none]) (by simp [results, Try.results41, go_sem, zz0, zz1, zz2, zz3, zz4, zz5, zz6, zz7]) rfl ⟨rfl, (((((((((hlow.trans (hb7.mono (by have := hlow.size; omega))).setCell (p := ⟨g, _, none⟩) (show w.heap.size ≤ g by omega) _).setCell (by simp) _).setCell (by simp) _).setCell (by simp) _).setCell (by simp) _).setCell (by simp) _).setCell (by simp) _).setCell (by simp) _).setCell (by simp) _⟩
set_option maxHeartbeats 4000000 in
theorem over_up1 (n m : Net) (i : Bool) (x : Int) (pz po : Option Addr) (b : Nat) (w : World) (hn : Ok n) (hm : Ok m) (hv : n.a.v6 = m.a.v6) (hN : Node w b m i x pz po) (hw : withinN n m = false) (hb0 : bitA m.a (sharedN n m).n = 1) :
    Calls Try.prog 41 #[.pointer (some ⟨b, 0, none⟩), .agg #[.bool n.a.v6, .int .u64 n.a.hi, .int .u64 n.a.lo, .int .i64 n.n]] w fun e w' => e = .returned (.agg #[.bool (sharedN n m).a.v6, .int .u64 (sharedN n m).a.hi, .int .u64 (sharedN n m).a.lo, .int .i64 (sharedN n m).n, .bool false, .int .i64 0, .pointer none, .pointer (some ⟨b, 0, none⟩)]) ∧ Below w.heap.size w w' := by
  have hb := hN.lt
  have LOW : Below w.heap.size w ((w.alloc (.cells #[.bool n.a.v6, .int .u64 n.a.hi, .int .u64 n.a.lo, .int .i64 n.n] 27)).alloc (.cells #[.bool false, .int .u64 0, .int .u64 0, .int .i64 0, .bool false, .int .i64 0, .pointer none, .pointer none] 63)) := two_low _ _ _
  have k0 : ((w.alloc (.cells #[.bool n.a.v6, .int .u64 n.a.hi, .int .u64 n.a.lo, .int .i64 n.n] 27)).alloc (.cells #[.bool false, .int .u64 0, .int .u64 0, .int .i64 0, .bool false, .int .i64 0, .pointer none, .pointer none] 63)).cell? ⟨w.heap.size, 0, none⟩ = some (.bool n.a.v6) := by simp [go_sem]
  have k1 : ((w.alloc (.cells #[.bool n.a.v6, .int .u64 n.a.hi, .int .u64 n.a.lo, .int .i64 n.n] 27)).alloc (.cells #[.bool false, .int .u64 0, .int .u64 0, .int .i64 0, .bool false, .int .i64 0, .pointer none, .pointer none] 63)).cell? ⟨w.heap.size, 1, none⟩ = some (.int .u64 n.a.hi) := by simp [go_sem]
  have k2 : ((w.alloc (.cells #[.bool n.a.v6, .int .u64 n.a.hi, .int .u64 n.a.lo, .int .i64 n.n] 27)).alloc (.cells #[.bool false, .int .u64 0, .int .u64 0, .int .i64 0, .bool false, .int .i64 0, .pointer none, .pointer none] 63)).cell? ⟨w.heap.size, 2, none⟩ = some (.int .u64 n.a.lo) := by simp [go_sem]
  have k3 : ((w.alloc (.cells #[.bool n.a.v6, .int .u64 n.a.hi, .int .u64 n.a.lo, .int .i64 n.n] 27)).alloc (.cells #[.bool false, .int .u64 0, .int .u64 0, .int .i64 0, .bool false, .int .i64 0, .pointer none, .pointer none] 63)).cell? ⟨w.heap.size, 3, none⟩ = some (.int .i64 n.n) := by simp [go_sem]
  have m0 : ((w.alloc (.cells #[.bool n.a.v6, .int .u64 n.a.hi, .int .u64 n.a.lo, .int .i64 n.n] 27)).alloc (.cells #[.bool false, .int .u64 0, .int .u64 0, .int .i64 0, .bool false, .int .i64 0, .pointer none, .pointer none] 63)).cell? ⟨b, 0, none⟩ = some (.bool m.a.v6) := cells_left LOW hN.c0
  have m1 : ((w.alloc (.cells #[.bool n.a.v6, .int .u64 n.a.hi, .int .u64 n.a.lo, .int .i64 n.n] 27)).alloc (.cells #[.bool false, .int .u64 0, .int .u64 0, .int .i64 0, .bool false, .int .i64 0, .pointer none, .pointer none] 63)).cell? ⟨b, 1, none⟩ = some (.int .u64 m.a.hi) := cells_left LOW hN.c1
  have m2 : ((w.alloc (.cells #[.bool n.a.v6, .int .u64 n.a.hi, .int .u64 n.a.lo, .int .i64 n.n] 27)).alloc (.cells #[.bool false, .int .u64 0, .int .u64 0, .int .i64 0, .bool false, .int .i64 0, .pointer none, .pointer none] 63)).cell? ⟨b, 2, none⟩ = some (.int .u64 m.a.lo) := cells_left LOW hN.c2
  have m3 : ((w.alloc (.cells #[.bool n.a.v6, .int .u64 n.a.hi, .int .u64 n.a.lo, .int .i64 n.n] 27)).alloc (.cells #[.bool false, .int .u64 0, .int .u64 0, .int .i64 0, .bool false, .int .i64 0, .pointer none, .pointer none] 63)).cell? ⟨b, 3, none⟩ = some (.int .i64 m.n) := cells_left LOW hN.c3
  have m4 : ((w.alloc (.cells #[.bool n.a.v6, .int .u64 n.a.hi, .int .u64 n.a.lo, .int .i64 n.n] 27)).alloc (.cells #[.bool false, .int .u64 0, .int .u64 0, .int .i64 0, .bool false, .int .i64 0, .pointer none, .pointer none] 63)).cell? ⟨b, 4, none⟩ = some (.bool i) := cells_left LOW hN.c4
  have m5 : ((w.alloc (.cells #[.bool n.a.v6, .int .u64 n.a.hi, .int .u64 n.a.lo, .int .i64 n.n] 27)).alloc (.cells #[.bool false, .int .u64 0, .int .u64 0, .int .i64 0, .bool false, .int .i64 0, .pointer none, .pointer none] 63)).cell? ⟨b, 5, none⟩ = some (.int .i64 x) := cells_left LOW hN.c5
  have m6 : ((w.alloc (.cells #[.bool n.a.v6, .int .u64 n.a.hi, .int .u64 n.a.lo, .int .i64 n.n] 27)).alloc (.cells #[.bool false, .int .u64 0, .int .u64 0, .int .i64 0, .bool false, .int .i64 0, .pointer none, .pointer none] 63)).cell? ⟨b, 6, none⟩ = some (.pointer pz) := cells_left LOW hN.c6
  have m7 : ((w.alloc (.cells #[.bool n.a.v6, .int .u64 n.a.hi, .int .u64 n.a.lo, .int .i64 n.n] 27)).alloc (.cells #[.bool false, .int .u64 0, .int .u64 0, .int .i64 0, .bool false, .int .i64 0, .pointer none, .pointer none] 63)).cell? ⟨b, 7, none⟩ = some (.pointer po) := cells_left LOW hN.c7
  have z0 : ((w.alloc (.cells #[.bool n.a.v6, .int .u64 n.a.hi, .int .u64 n.a.lo, .int .i64 n.n] 27)).alloc (.cells #[.bool false, .int .u64 0, .int .u64 0, .int .i64 0, .bool false, .int .i64 0, .pointer none, .pointer none] 63)).cell? ⟨w.heap.size + 1, 0, none⟩ = some (.bool false) := by simp [go_sem]
  have y0 : ((w.alloc (.cells #[.bool n.a.v6, .int .u64 n.a.hi, .int .u64 n.a.lo, .int .i64 n.n] 27)).alloc (.cells #[.bool false, .int .u64 0, .int .u64 0, .int .i64 0, .bool false, .int .i64 0, .pointer none, .pointer none] 63)).frozen? ⟨w.heap.size + 1, 0, none⟩ = false := by simp [go_sem]
  have z1 : ((w.alloc (.cells #[.bool n.a.v6, .int .u64 n.a.hi, .int .u64 n.a.lo, .int .i64 n.n] 27)).alloc (.cells #[.bool false, .int .u64 0, .int .u64 0, .int .i64 0, .bool false, .int .i64 0, .pointer none, .pointer none] 63)).cell? ⟨w.heap.size + 1, 1, none⟩ = some (.int .u64 0) := by simp [go_sem]
  have y1 : ((w.alloc (.cells #[.bool n.a.v6, .int .u64 n.a.hi, .int .u64 n.a.lo, .int .i64 n.n] 27)).alloc (.cells #[.bool false, .int .u64 0, .int .u64 0, .int .i64 0, .bool false, .int .i64 0, .pointer none, .pointer none] 63)).frozen? ⟨w.heap.size + 1, 1, none⟩ = false := by simp [go_sem]
  have z2 : ((w.alloc (.cells #[.bool n.a.v6, .int .u64 n.a.hi, .int .u64 n.a.lo, .int .i64 n.n] 27)).alloc (.cells #[.bool false, .int .u64 0, .int .u64 0, .int .i64 0, .bool false, .int .i64 0, .pointer none, .pointer none] 63)).cell? ⟨w.heap.size + 1, 2, none⟩ = some (.int .u64 0) := by simp [go_sem]
  have y2 : ((w.alloc (.cells #[.bool n.a.v6, .int .u64 n.a.hi, .int .u64 n.a.lo, .int .i64 n.n] 27)).alloc (.cells #[.bool false, .int .u64 0, .int .u64 0, .int .i64 0, .bool false, .int .i64 0, .pointer none, .pointer none] 63)).frozen? ⟨w.heap.size + 1, 2, none⟩ = false := by simp [go_sem]
  have z3 : ((w.alloc (.cells #[.bool n.a.v6, .int .u64 n.a.hi, .int .u64 n.a.lo, .int .i64 n.n] 27)).alloc (.cells #[.bool false, .int .u64 0, .int .u64 0, .int .i64 0, .bool false, .int .i64 0, .pointer none, .pointer none] 63)).cell? ⟨w.heap.size + 1, 3, none⟩ = some (.int .i64 0) := by simp [go_sem]
  have y3 : ((w.alloc (.cells #[.bool n.a.v6, .int .u64 n.a.hi, .int .u64 n.a.lo, .int .i64 n.n] 27)).alloc (.cells #[.bool false, .int .u64 0, .int .u64 0, .int .i64 0, .bool false, .int .i64 0, .pointer none, .pointer none] 63)).frozen? ⟨w.heap.size + 1, 3, none⟩ = false := by simp [go_sem]
  have z4 : ((w.alloc (.cells #[.bool n.a.v6, .int .u64 n.a.hi, .int .u64 n.a.lo, .int .i64 n.n] 27)).alloc (.cells #[.bool false, .int .u64 0, .int .u64 0, .int .i64 0, .bool false, .int .i64 0, .pointer none, .pointer none] 63)).cell? ⟨w.heap.size + 1, 4, none⟩ = some (.bool false) := by simp [go_sem]
  have y4 : ((w.alloc (.cells #[.bool n.a.v6, .int .u64 n.a.hi, .int .u64 n.a.lo, .int .i64 n.n] 27)).alloc (.cells #[.bool false, .int .u64 0, .int .u64 0, .int .i64 0, .bool false, .int .i64 0, .pointer none, .pointer none] 63)).frozen? ⟨w.heap.size + 1, 4, none⟩ = false := by simp [go_sem]
  have z5 : ((w.alloc (.cells #[.bool n.a.v6, .int .u64 n.a.hi, .int .u64 n.a.lo, .int .i64 n.n] 27)).alloc (.cells #[.bool false, .int .u64 0, .int .u64 0, .int .i64 0, .bool false, .int .i64 0, .pointer none, .pointer none] 63)).cell? ⟨w.heap.size + 1, 5, none⟩ = some (.int .i64 0) := by simp [go_sem]
  have y5 : ((w.alloc (.cells #[.bool n.a.v6, .int .u64 n.a.hi, .int .u64 n.a.lo, .int .i64 n.n] 27)).alloc (.cells #[.bool false, .int .u64 0, .int .u64 0, .int .i64 0, .bool false, .int .i64 0, .pointer none, .pointer none] 63)).frozen? ⟨w.heap.size + 1, 5, none⟩ = false := by simp [go_sem]
  have z6 : ((w.alloc (.cells #[.bool n.a.v6, .int .u64 n.a.hi, .int .u64 n.a.lo, .int .i64 n.n] 27)).alloc (.cells #[.bool false, .int .u64 0, .int .u64 0, .int .i64 0, .bool false, .int .i64 0, .pointer none, .pointer none] 63)).cell? ⟨w.heap.size + 1, 6, none⟩ = some (.pointer none) := by simp [go_sem]
  have y6 : ((w.alloc (.cells #[.bool n.a.v6, .int .u64 n.a.hi, .int .u64 n.a.lo, .int .i64 n.n] 27)).alloc (.cells #[.bool false, .int .u64 0, .int .u64 0, .int .i64 0, .bool false, .int .i64 0, .pointer none, .pointer none] 63)).frozen? ⟨w.heap.size + 1, 6, none⟩ = false := by simp [go_sem]
  have z7 : ((w.alloc (.cells #[.bool n.a.v6, .int .u64 n.a.hi, .int .u64 n.a.lo, .int .i64 n.n] 27)).alloc (.cells #[.bool false, .int .u64 0, .int .u64 0, .int .i64 0, .bool false, .int .i64 0, .pointer none, .pointer none] 63)).cell? ⟨w.heap.size + 1, 7, none⟩ = some (.pointer none) := by simp [go_sem]
  have y7 : ((w.alloc (.cells #[.bool n.a.v6, .int .u64 n.a.hi, .int .u64 n.a.lo, .int .i64 n.n] 27)).alloc (.cells #[.bool false, .int .u64 0, .int .u64 0, .int .i64 0, .bool false, .int .i64 0, .pointer none, .pointer none] 63)).frozen? ⟨w.heap.size + 1, 7, none⟩ = false := by simp [go_sem]
  have K1 : Hid (∀ W0, Stays ((w.alloc (.cells #[.bool n.a.v6, .int .u64 n.a.hi, .int .u64 n.a.lo, .int .i64 n.n] 27)).alloc (.cells #[.bool false, .int .u64 0, .int .u64 0, .int .i64 0, .bool false, .int .i64 0, .pointer none, .pointer none] 63)) W0 → Calls Try.prog 45 #[.agg #[.bool n.a.v6, .int .u64 n.a.hi, .int .u64 n.a.lo, .int .i64 n.n], .agg #[.bool m.a.v6, .int .u64 m.a.hi, .int .u64 m.a.lo, .int .i64 m.n]] W0 fun e w' => e = .returned (.bool false) ∧ Stays ((w.alloc (.cells #[.bool n.a.v6, .int .u64 n.a.hi, .int .u64 n.a.lo, .int .i64 n.n] 27)).alloc (.cells #[.bool false, .int .u64 0, .int .u64 0, .int .i64 0, .bool false, .int .i64 0, .pointer none, .pointer none] 63)) w') := Lib.hid (keep_call fun W0 => by have := within_any n m W0 hn.ok hm.ok; rw [hw] at this; exact this)
  have SH := Lib.hid (fun W => shared_any n m W hn hm hv)
  have HS := (shared_is (n := m) hn).2
  have HF := Lib.hid (fun W c (hc : W.cell? ⟨c, 3, none⟩ = some (.int .i64 (sharedN n m).n)) => half_any c (sharedN n m) m.a W hc HS.ok hm.ok.1)
  rw [hb0] at HF
  generalize sharedN n m = s at HS SH HF ⊢
  clear hw hb0 hv
  go_enter Try.func41, Try.ntmps41
  go_wp2_with fail
  have hne : Nonempty (Cls (Stays ((w.alloc (.cells #[.bool n.a.v6, .int .u64 n.a.hi, .int .u64 n.a.lo, .int .i64 n.n] 27)).alloc (.cells #[.bool false, .int .u64 0, .int .u64 0, .int .i64 0, .bool false, .int .i64 0, .pointer none, .pointer none] 63)))) := ⟨⟨_, Below.refl _ _⟩⟩
  have f0 : ∀ q : Cls (Stays ((w.alloc (.cells #[.bool n.a.v6, .int .u64 n.a.hi, .int .u64 n.a.lo, .int .i64 n.n] 27)).alloc (.cells #[.bool false, .int .u64 0, .int .u64 0, .int .i64 0, .bool false, .int .i64 0, .pointer none, .pointer none] 63))), q.w.cell? ⟨w.heap.size, 0, none⟩ = some (.bool n.a.v6) := fun q => cells_left q.h (k0)
  have f1 : ∀ q : Cls (Stays ((w.alloc (.cells #[.bool n.a.v6, .int .u64 n.a.hi, .int .u64 n.a.lo, .int .i64 n.n] 27)).alloc (.cells #[.bool false, .int .u64 0, .int .u64 0, .int .i64 0, .bool false, .int .i64 0, .pointer none, .pointer none] 63))), q.w.cell? ⟨w.heap.size, 1, none⟩ = some (.int .u64 n.a.hi) := fun q => cells_left q.h (k1)
  have f2 : ∀ q : Cls (Stays ((w.alloc (.cells #[.bool n.a.v6, .int .u64 n.a.hi, .int .u64 n.a.lo, .int .i64 n.n] 27)).alloc (.cells #[.bool false, .int .u64 0, .int .u64 0, .int .i64 0, .bool false, .int .i64 0, .pointer none, .pointer none] 63))), q.w.cell? ⟨w.heap.size, 2, none⟩ = some (.int .u64 n.a.lo) := fun q => cells_left q.h (k2)
  have f3 : ∀ q : Cls (Stays ((w.alloc (.cells #[.bool n.a.v6, .int .u64 n.a.hi, .int .u64 n.a.lo, .int .i64 n.n] 27)).alloc (.cells #[.bool false, .int .u64 0, .int .u64 0, .int .i64 0, .bool false, .int .i64 0, .pointer none, .pointer none] 63))), q.w.cell? ⟨w.heap.size, 3, none⟩ = some (.int .i64 n.n) := fun q => cells_left q.h (k3)
  have f4 : ∀ q : Cls (Stays ((w.alloc (.cells #[.bool n.a.v6, .int .u64 n.a.hi, .int .u64 n.a.lo, .int .i64 n.n] 27)).alloc (.cells #[.bool false, .int .u64 0, .int .u64 0, .int .i64 0, .bool false, .int .i64 0, .pointer none, .pointer none] 63))), q.w.cell? ⟨b, 0, none⟩ = some (.bool m.a.v6) := fun q => cells_left q.h (m0)
  have f5 : ∀ q : Cls (Stays ((w.alloc (.cells #[.bool n.a.v6, .int .u64 n.a.hi, .int .u64 n.a.lo, .int .i64 n.n] 27)).alloc (.cells #[.bool false, .int .u64 0, .int .u64 0, .int .i64 0, .bool false, .int .i64 0, .pointer none, .pointer none] 63))), q.w.cell? ⟨b, 1, none⟩ = some (.int .u64 m.a.hi) := fun q => cells_left q.h (m1)
  have f6 : ∀ q : Cls (Stays ((w.alloc (.cells #[.bool n.a.v6, .int .u64 n.a.hi, .int .u64 n.a.lo, .int .i64 n.n] 27)).alloc (.cells #[.bool false, .int .u64 0, .int .u64 0, .int .i64 0, .bool false, .int .i64 0, .pointer none, .pointer none] 63))), q.w.cell? ⟨b, 2, none⟩ = some (.int .u64 m.a.lo) := fun q => cells_left q.h (m2)
  have f7 : ∀ q : Cls (Stays ((w.alloc (.cells #[.bool n.a.v6, .int .u64 n.a.hi, .int .u64 n.a.lo, .int .i64 n.n] 27)).alloc (.cells #[.bool false, .int .u64 0, .int .u64 0, .int .i64 0, .bool false, .int .i64 0, .pointer none, .pointer none] 63))), q.w.cell? ⟨b, 3, none⟩ = some (.int .i64 m.n) := fun q => cells_left q.h (m3)
  refine Cls.region (Stays ((w.alloc (.cells #[.bool n.a.v6, .int .u64 n.a.hi, .int .u64 n.a.lo, .int .i64 n.n] 27)).alloc (.cells #[.bool false, .int .u64 0, .int .u64 0, .int .i64 0, .bool false, .int .i64 0, .pointer none, .pointer none] 63))) (by kernel_rfl) (by kernel_rfl) (low_drewN (Below.refl _ _) 1) ?_
  repeat (go_big_quiet_step (first | fail | (with_reducible exact Cls.call (K1.out _ (Cls.h _)))))
  refine wpQuiet_nil ?_
  intro n9
  have hs9 := n9.h
  generalize n9.w = w9 at hs9 ⊢
  clear hne n9 f0 f1 f2 f3 f4 f5 f6 f7
  have m0' : w9.cell? ⟨b, 0, none⟩ = some (.bool m.a.v6) := cells_left hs9 m0
  have m1' : w9.cell? ⟨b, 1, none⟩ = some (.int .u64 m.a.hi) := cells_left hs9 m1
  have m2' : w9.cell? ⟨b, 2, none⟩ = some (.int .u64 m.a.lo) := cells_left hs9 m2
  have m3' : w9.cell? ⟨b, 3, none⟩ = some (.int .i64 m.n) := cells_left hs9 m3
  have m4' : w9.cell? ⟨b, 4, none⟩ = some (.bool i) := cells_left hs9 m4
  have m5' : w9.cell? ⟨b, 5, none⟩ = some (.int .i64 x) := cells_left hs9 m5
  have m6' : w9.cell? ⟨b, 6, none⟩ = some (.pointer pz) := cells_left hs9 m6
  have m7' : w9.cell? ⟨b, 7, none⟩ = some (.pointer po) := cells_left hs9 m7
  have k0' : w9.cell? ⟨w.heap.size, 0, none⟩ = some (.bool n.a.v6) := cells_left hs9 k0
  have k1' : w9.cell? ⟨w.heap.size, 1, none⟩ = some (.int .u64 n.a.hi) := cells_left hs9 k1
  have k2' : w9.cell? ⟨w.heap.size, 2, none⟩ = some (.int .u64 n.a.lo) := cells_left hs9 k2
  have k3' : w9.cell? ⟨w.heap.size, 3, none⟩ = some (.int .i64 n.n) := cells_left hs9 k3
  have z0' : w9.cell? ⟨w.heap.size + 1, 0, none⟩ = some (.bool false) := cells_left hs9 z0
  have y0' : w9.frozen? ⟨w.heap.size + 1, 0, none⟩ = false := frozen_left hs9 (by simp) y0
  have z1' : w9.cell? ⟨w.heap.size + 1, 1, none⟩ = some (.int .u64 0) := cells_left hs9 z1
  have y1' : w9.frozen? ⟨w.heap.size + 1, 1, none⟩ = false := frozen_left hs9 (by simp) y1
  have z2' : w9.cell? ⟨w.heap.size + 1, 2, none⟩ = some (.int .u64 0) := cells_left hs9 z2
  have y2' : w9.frozen? ⟨w.heap.size + 1, 2, none⟩ = false := frozen_left hs9 (by simp) y2
  have z3' : w9.cell? ⟨w.heap.size + 1, 3, none⟩ = some (.int .i64 0) := cells_left hs9 z3
  have y3' : w9.frozen? ⟨w.heap.size + 1, 3, none⟩ = false := frozen_left hs9 (by simp) y3
  have z4' : w9.cell? ⟨w.heap.size + 1, 4, none⟩ = some (.bool false) := cells_left hs9 z4
  have y4' : w9.frozen? ⟨w.heap.size + 1, 4, none⟩ = false := frozen_left hs9 (by simp) y4
  have z5' : w9.cell? ⟨w.heap.size + 1, 5, none⟩ = some (.int .i64 0) := cells_left hs9 z5
  have y5' : w9.frozen? ⟨w.heap.size + 1, 5, none⟩ = false := frozen_left hs9 (by simp) y5
  have z6' : w9.cell? ⟨w.heap.size + 1, 6, none⟩ = some (.pointer none) := cells_left hs9 z6
  have y6' : w9.frozen? ⟨w.heap.size + 1, 6, none⟩ = false := frozen_left hs9 (by simp) y6
  have z7' : w9.cell? ⟨w.heap.size + 1, 7, none⟩ = some (.pointer none) := cells_left hs9 z7
  have y7' : w9.frozen? ⟨w.heap.size + 1, 7, none⟩ = false := frozen_left hs9 (by simp) y7
  have hz : w.heap.size + 1 < w9.heap.size := by have := hs9.size; simp at this; omega
  clear m0 z0 y0 m1 z1 y1 m2 z2 y2 m3 z3 y3 m4 z4 y4 m5 z5 y5 m6 z6 y6 m7 z7 y7
  clear k0 k1 k2 k3
  have SA : ∀ W, Stays w9 W → (fun w' => w'.cell? ⟨w.heap.size, 0, none⟩ = some (.bool n.a.v6) ∧ w'.cell? ⟨w.heap.size, 1, none⟩ = some (.int .u64 n.a.hi) ∧ w'.cell? ⟨w.heap.size, 2, none⟩ = some (.int .u64 n.a.lo) ∧ w'.cell? ⟨w.heap.size, 3, none⟩ = some (.int .i64 n.n) ∧ w'.cell? ⟨b, 0, none⟩ = some (.bool m.a.v6) ∧ w'.cell? ⟨b, 1, none⟩ = some (.int .u64 m.a.hi) ∧ w'.cell? ⟨b, 2, none⟩ = some (.int .u64 m.a.lo) ∧ w'.cell? ⟨b, 3, none⟩ = some (.int .i64 m.n) ∧ Stays w9 w') W := fun W h => ⟨cells_left h k0', cells_left h k1', cells_left h k2', cells_left h k3', cells_left h m0', cells_left h m1', cells_left h m2', cells_left h m3', h⟩
  have JD : Hid (∀ W, (fun w' => w'.cell? ⟨w.heap.size, 0, none⟩ = some (.bool n.a.v6) ∧ w'.cell? ⟨w.heap.size, 1, none⟩ = some (.int .u64 n.a.hi) ∧ w'.cell? ⟨w.heap.size, 2, none⟩ = some (.int .u64 n.a.lo) ∧ w'.cell? ⟨w.heap.size, 3, none⟩ = some (.int .i64 n.n) ∧ w'.cell? ⟨b, 0, none⟩ = some (.bool m.a.v6) ∧ w'.cell? ⟨b, 1, none⟩ = some (.int .u64 m.a.hi) ∧ w'.cell? ⟨b, 2, none⟩ = some (.int .u64 m.a.lo) ∧ w'.cell? ⟨b, 3, none⟩ = some (.int .i64 m.n) ∧ Stays w9 w') W → (fun w' => w'.cell? ⟨w.heap.size, 0, none⟩ = some (.bool n.a.v6) ∧ w'.cell? ⟨w.heap.size, 1, none⟩ = some (.int .u64 n.a.hi) ∧ w'.cell? ⟨w.heap.size, 2, none⟩ = some (.int .u64 n.a.lo) ∧ w'.cell? ⟨w.heap.size, 3, none⟩ = some (.int .i64 n.n) ∧ w'.cell? ⟨b, 0, none⟩ = some (.bool m.a.v6) ∧ w'.cell? ⟨b, 1, none⟩ = some (.int .u64 m.a.hi) ∧ w'.cell? ⟨b, 2, none⟩ = some (.int .u64 m.a.lo) ∧ w'.cell? ⟨b, 3, none⟩ = some (.int .i64 m.n) ∧ Stays w9 w') W.drew) := Lib.hid fun W h => SA _ (low_drewN h.2.2.2.2.2.2.2.2 1)
  have JA : Hid (∀ W o, (fun w' => w'.cell? ⟨w.heap.size, 0, none⟩ = some (.bool n.a.v6) ∧ w'.cell? ⟨w.heap.size, 1, none⟩ = some (.int .u64 n.a.hi) ∧ w'.cell? ⟨w.heap.size, 2, none⟩ = some (.int .u64 n.a.lo) ∧ w'.cell? ⟨w.heap.size, 3, none⟩ = some (.int .i64 n.n) ∧ w'.cell? ⟨b, 0, none⟩ = some (.bool m.a.v6) ∧ w'.cell? ⟨b, 1, none⟩ = some (.int .u64 m.a.hi) ∧ w'.cell? ⟨b, 2, none⟩ = some (.int .u64 m.a.lo) ∧ w'.cell? ⟨b, 3, none⟩ = some (.int .i64 m.n) ∧ Stays w9 w') W → (fun w' => w'.cell? ⟨w.heap.size, 0, none⟩ = some (.bool n.a.v6) ∧ w'.cell? ⟨w.heap.size, 1, none⟩ = some (.int .u64 n.a.hi) ∧ w'.cell? ⟨w.heap.size, 2, none⟩ = some (.int .u64 n.a.lo) ∧ w'.cell? ⟨w.heap.size, 3, none⟩ = some (.int .i64 n.n) ∧ w'.cell? ⟨b, 0, none⟩ = some (.bool m.a.v6) ∧ w'.cell? ⟨b, 1, none⟩ = some (.int .u64 m.a.hi) ∧ w'.cell? ⟨b, 2, none⟩ = some (.int .u64 m.a.lo) ∧ w'.cell? ⟨b, 3, none⟩ = some (.int .i64 m.n) ∧ Stays w9 w') (W.alloc o)) := Lib.hid fun W o h => SA _ (Below.alloc h.2.2.2.2.2.2.2.2 (Below.size h.2.2.2.2.2.2.2.2) o)
  have JS : Hid (∀ W c j u, (fun w' => w'.cell? ⟨w.heap.size, 0, none⟩ = some (.bool n.a.v6) ∧ w'.cell? ⟨w.heap.size, 1, none⟩ = some (.int .u64 n.a.hi) ∧ w'.cell? ⟨w.heap.size, 2, none⟩ = some (.int .u64 n.a.lo) ∧ w'.cell? ⟨w.heap.size, 3, none⟩ = some (.int .i64 n.n) ∧ w'.cell? ⟨b, 0, none⟩ = some (.bool m.a.v6) ∧ w'.cell? ⟨b, 1, none⟩ = some (.int .u64 m.a.hi) ∧ w'.cell? ⟨b, 2, none⟩ = some (.int .u64 m.a.lo) ∧ w'.cell? ⟨b, 3, none⟩ = some (.int .i64 m.n) ∧ Stays w9 w') W → w9.heap.size ≤ c → (fun w' => w'.cell? ⟨w.heap.size, 0, none⟩ = some (.bool n.a.v6) ∧ w'.cell? ⟨w.heap.size, 1, none⟩ = some (.int .u64 n.a.hi) ∧ w'.cell? ⟨w.heap.size, 2, none⟩ = some (.int .u64 n.a.lo) ∧ w'.cell? ⟨w.heap.size, 3, none⟩ = some (.int .i64 n.n) ∧ w'.cell? ⟨b, 0, none⟩ = some (.bool m.a.v6) ∧ w'.cell? ⟨b, 1, none⟩ = some (.int .u64 m.a.hi) ∧ w'.cell? ⟨b, 2, none⟩ = some (.int .u64 m.a.lo) ∧ w'.cell? ⟨b, 3, none⟩ = some (.int .i64 m.n) ∧ Stays w9 w') (W.setCell ⟨c, j, none⟩ u)) := Lib.hid fun W c j u h hc => SA _ (Below.setCell h.2.2.2.2.2.2.2.2 (p := ⟨c, j, none⟩) hc u)
  have SH2 : Hid (∀ W, (fun w' => w'.cell? ⟨w.heap.size, 0, none⟩ = some (.bool n.a.v6) ∧ w'.cell? ⟨w.heap.size, 1, none⟩ = some (.int .u64 n.a.hi) ∧ w'.cell? ⟨w.heap.size, 2, none⟩ = some (.int .u64 n.a.lo) ∧ w'.cell? ⟨w.heap.size, 3, none⟩ = some (.int .i64 n.n) ∧ w'.cell? ⟨b, 0, none⟩ = some (.bool m.a.v6) ∧ w'.cell? ⟨b, 1, none⟩ = some (.int .u64 m.a.hi) ∧ w'.cell? ⟨b, 2, none⟩ = some (.int .u64 m.a.lo) ∧ w'.cell? ⟨b, 3, none⟩ = some (.int .i64 m.n) ∧ Stays w9 w') W → Calls Try.prog 46 #[.agg #[.bool n.a.v6, .int .u64 n.a.hi, .int .u64 n.a.lo, .int .i64 n.n], .agg #[.bool m.a.v6, .int .u64 m.a.hi, .int .u64 m.a.lo, .int .i64 m.n]] W fun e w' => e = .returned (.agg #[.bool s.a.v6, .int .u64 s.a.hi, .int .u64 s.a.lo, .int .i64 s.n]) ∧ Below W.heap.size W w' ∧ (fun w' => w'.cell? ⟨w.heap.size, 0, none⟩ = some (.bool n.a.v6) ∧ w'.cell? ⟨w.heap.size, 1, none⟩ = some (.int .u64 n.a.hi) ∧ w'.cell? ⟨w.heap.size, 2, none⟩ = some (.int .u64 n.a.lo) ∧ w'.cell? ⟨w.heap.size, 3, none⟩ = some (.int .i64 n.n) ∧ w'.cell? ⟨b, 0, none⟩ = some (.bool m.a.v6) ∧ w'.cell? ⟨b, 1, none⟩ = some (.int .u64 m.a.hi) ∧ w'.cell? ⟨b, 2, none⟩ = some (.int .u64 m.a.lo) ∧ w'.cell? ⟨b, 3, none⟩ = some (.int .i64 m.n) ∧ Stays w9 w') w') := Lib.hid fun W h => (SH.out W).mono fun e w' ⟨he, hb⟩ => ⟨he, hb, SA _ (low_trans h.2.2.2.2.2.2.2.2 hb)⟩
  have hs0 := SA w9 (Below.refl _ _)
  have SA2 := Lib.hid SA
  clear SA
  go_upto_region 5 with fail
  go_cut [5] (fun s5 wx => ∃ g : Nat, s5 = .pointer (some ⟨g, 0, none⟩) ∧ w9.heap.size ≤ g ∧ Own wx g 63 [.bool s.a.v6, .int .u64 s.a.hi, .int .u64 s.a.lo, .int .i64 s.n, .bool false, .int .i64 0, .pointer none, .pointer none] ∧ Stays w9 wx)
  case first =>
    go_region_held3 (fun w' => w'.cell? ⟨w.heap.size, 0, none⟩ = some (.bool n.a.v6) ∧ w'.cell? ⟨w.heap.size, 1, none⟩ = some (.int .u64 n.a.hi) ∧ w'.cell? ⟨w.heap.size, 2, none⟩ = some (.int .u64 n.a.lo) ∧ w'.cell? ⟨w.heap.size, 3, none⟩ = some (.int .i64 n.n) ∧ w'.cell? ⟨b, 0, none⟩ = some (.bool m.a.v6) ∧ w'.cell? ⟨b, 1, none⟩ = some (.int .u64 m.a.hi) ∧ w'.cell? ⟨b, 2, none⟩ = some (.int .u64 m.a.lo) ∧ w'.cell? ⟨b, 3, none⟩ = some (.int .i64 m.n) ∧ Stays w9 w')
      (first | (with_reducible assumption) | (with_reducible exact JD.out _ (by assumption)) | (with_reducible exact JA.out _ _ (by assumption)) | (with_reducible exact JD.out _ (JA.out _ _ (by assumption))) | ((iterate 8 (with_reducible refine JS.out _ _ _ _ ?_ (by first | exact Nat.le_refl _ | simp))); (with_reducible assumption)))
      (first
        | (go_at_call 46; (with_reducible refine (SH2.out _ (by assumption)).mono ?_); rintro e w8 ⟨rfl, hb8, hk8⟩; obtain ⟨hc8, hf8⟩ := old hb8))
    · have hs8 : Stays w9 w8 := hk8.2.2.2.2.2.2.2.2
      go_wp2_with fail
      go_meet
      exact ⟨w8.heap.size, rfl, hs8.size, Own.new w8 _ _, Below.alloc hs8 hs8.size _⟩
    · have hs8 : Stays w9 w8 := hk8.2.2.2.2.2.2.2.2
      have ho := (show Own (w9.alloc (.cells #[.bool false, .int .u64 0, .int .u64 0, .int .i64 0, .bool false, .int .i64 0, .pointer none, .pointer none] 63)).drew w9.heap.size 63 [.bool false, .int .u64 0, .int .u64 0, .int .i64 0, .bool false, .int .i64 0, .pointer none, .pointer none] from Own.new w9 _ _).on hb8
      go_wp2_with fail
      go_meet
      exact ⟨w9.heap.size, rfl, Nat.le_refl _, (((((((ho.set 0 _).set 1 _).set 2 _).set 3 _).set 4 _).set 5 _).set 6 _).set 7 _, (((((((hs8.setCell (Nat.le_refl _) _).setCell (Nat.le_refl _) _).setCell (Nat.le_refl _) _).setCell (Nat.le_refl _) _).setCell (Nat.le_refl _) _).setCell (Nat.le_refl _) _).setCell (Nat.le_refl _) _).setCell (Nat.le_refl _) _⟩
  case rest =>
    obtain ⟨g, rfl, hg1, hown, hsx⟩ := hcut
    have hlow := low_trans LOW (low_trans hs9 hsx)
    have g0 : wc.cell? ⟨g, 0, none⟩ = some (.bool s.a.v6) := hown.cell rfl
    have h0 : wc.frozen? ⟨g, 0, none⟩ = false := hown.free _
    have g1 : wc.cell? ⟨g, 1, none⟩ = some (.int .u64 s.a.hi) := hown.cell rfl
    have h1 : wc.frozen? ⟨g, 1, none⟩ = false := hown.free _
    have g2 : wc.cell? ⟨g, 2, none⟩ = some (.int .u64 s.a.lo) := hown.cell rfl
    have h2 : wc.frozen? ⟨g, 2, none⟩ = false := hown.free _
    have g3 : wc.cell? ⟨g, 3, none⟩ = some (.int .i64 s.n) := hown.cell rfl
    have h3 : wc.frozen? ⟨g, 3, none⟩ = false := hown.free _
    have g4 : wc.cell? ⟨g, 4, none⟩ = some (.bool false) := hown.cell rfl
    have h4 : wc.frozen? ⟨g, 4, none⟩ = false := hown.free _
    have g5 : wc.cell? ⟨g, 5, none⟩ = some (.int .i64 0) := hown.cell rfl
    have h5 : wc.frozen? ⟨g, 5, none⟩ = false := hown.free _
    have g6 : wc.cell? ⟨g, 6, none⟩ = some (.pointer none) := hown.cell rfl
    have h6 : wc.frozen? ⟨g, 6, none⟩ = false := hown.free _
    have g7 : wc.cell? ⟨g, 7, none⟩ = some (.pointer none) := hown.cell rfl
    have h7 : wc.frozen? ⟨g, 7, none⟩ = false := hown.free _
    have m0'' : wc.cell? ⟨b, 0, none⟩ = some (.bool m.a.v6) := cells_left hsx m0'
    have m1'' : wc.cell? ⟨b, 1, none⟩ = some (.int .u64 m.a.hi) := cells_left hsx m1'
    have m2'' : wc.cell? ⟨b, 2, none⟩ = some (.int .u64 m.a.lo) := cells_left hsx m2'
    have m3'' : wc.cell? ⟨b, 3, none⟩ = some (.int .i64 m.n) := cells_left hsx m3'
    have z0'' : wc.cell? ⟨w.heap.size + 1, 0, none⟩ = some (.bool false) := cells_left hsx z0'
    have y0'' : wc.frozen? ⟨w.heap.size + 1, 0, none⟩ = false := frozen_left hsx hz y0'
    have z1'' : wc.cell? ⟨w.heap.size + 1, 1, none⟩ = some (.int .u64 0) := cells_left hsx z1'
    have y1'' : wc.frozen? ⟨w.heap.size + 1, 1, none⟩ = false := frozen_left hsx hz y1'
    have z2'' : wc.cell? ⟨w.heap.size + 1, 2, none⟩ = some (.int .u64 0) := cells_left hsx z2'
    have y2'' : wc.frozen? ⟨w.heap.size + 1, 2, none⟩ = false := frozen_left hsx hz y2'
    have z3'' : wc.cell? ⟨w.heap.size + 1, 3, none⟩ = some (.int .i64 0) := cells_left hsx z3'
    have y3'' : wc.frozen? ⟨w.heap.size + 1, 3, none⟩ = false := frozen_left hsx hz y3'
    have z4'' : wc.cell? ⟨w.heap.size + 1, 4, none⟩ = some (.bool false) := cells_left hsx z4'
    have y4'' : wc.frozen? ⟨w.heap.size + 1, 4, none⟩ = false := frozen_left hsx hz y4'
    have z5'' : wc.cell? ⟨w.heap.size + 1, 5, none⟩ = some (.int .i64 0) := cells_left hsx z5'
    have y5'' : wc.frozen? ⟨w.heap.size + 1, 5, none⟩ = false := frozen_left hsx hz y5'
    have z6'' : wc.cell? ⟨w.heap.size + 1, 6, none⟩ = some (.pointer none) := cells_left hsx z6'
    have y6'' : wc.frozen? ⟨w.heap.size + 1, 6, none⟩ = false := frozen_left hsx hz y6'
    have z7'' : wc.cell? ⟨w.heap.size + 1, 7, none⟩ = some (.pointer none) := cells_left hsx z7'
    have y7'' : wc.frozen? ⟨w.heap.size + 1, 7, none⟩ = false := frozen_left hsx hz y7'
    have HF1 := Lib.hid (HF.out wc g g3)
    go_wp2_with fail
    ((with_reducible refine (HF1.out).mono ?_); rintro e w7 ⟨rfl, hb7⟩)
    have hzc : w.heap.size + 1 < wc.heap.size := by have := hsx.size; omega
    have hgz : ¬ g = w.heap.size + 1 := by omega
    have hgz2 : ¬ w.heap.size + 1 = g := by omega
    have ho7 := hown.on hb7
    have gg0 : w7.cell? ⟨g, 0, none⟩ = some (.bool s.a.v6) := ho7.cell rfl
    have hh0 : w7.frozen? ⟨g, 0, none⟩ = false := ho7.free _
    have gg1 : w7.cell? ⟨g, 1, none⟩ = some (.int .u64 s.a.hi) := ho7.cell rfl
    have hh1 : w7.frozen? ⟨g, 1, none⟩ = false := ho7.free _
    have gg2 : w7.cell? ⟨g, 2, none⟩ = some (.int .u64 s.a.lo) := ho7.cell rfl
    have hh2 : w7.frozen? ⟨g, 2, none⟩ = false := ho7.free _
    have gg3 : w7.cell? ⟨g, 3, none⟩ = some (.int .i64 s.n) := ho7.cell rfl
    have hh3 : w7.frozen? ⟨g, 3, none⟩ = false := ho7.free _
    have gg4 : w7.cell? ⟨g, 4, none⟩ = some (.bool false) := ho7.cell rfl
    have hh4 : w7.frozen? ⟨g, 4, none⟩ = false := ho7.free _
    have gg5 : w7.cell? ⟨g, 5, none⟩ = some (.int .i64 0) := ho7.cell rfl
    have hh5 : w7.frozen? ⟨g, 5, none⟩ = false := ho7.free _
    have gg6 : w7.cell? ⟨g, 6, none⟩ = some (.pointer none) := ho7.cell rfl
    have hh6 : w7.frozen? ⟨g, 6, none⟩ = false := ho7.free _
    have gg7 : w7.cell? ⟨g, 7, none⟩ = some (.pointer none) := ho7.cell rfl
    have hh7 : w7.frozen? ⟨g, 7, none⟩ = false := ho7.free _
    have zz0 : w7.cell? ⟨w.heap.size + 1, 0, none⟩ = some (.bool false) := cells_left hb7 z0''
    have yy0 : w7.frozen? ⟨w.heap.size + 1, 0, none⟩ = false := frozen_left hb7 hzc y0''
    have zz1 : w7.cell? ⟨w.heap.size + 1, 1, none⟩ = some (.int .u64 0) := cells_left hb7 z1''
    have yy1 : w7.frozen? ⟨w.heap.size + 1, 1, none⟩ = false := frozen_left hb7 hzc y1''
    have zz2 : w7.cell? ⟨w.heap.size + 1, 2, none⟩ = some (.int .u64 0) := cells_left hb7 z2''
    have yy2 : w7.frozen? ⟨w.heap.size + 1, 2, none⟩ = false := frozen_left hb7 hzc y2''
    have zz3 : w7.cell? ⟨w.heap.size + 1, 3, none⟩ = some (.int .i64 0) := cells_left hb7 z3''
    have yy3 : w7.frozen? ⟨w.heap.size + 1, 3, none⟩ = false := frozen_left hb7 hzc y3''
    have zz4 : w7.cell? ⟨w.heap.size + 1, 4, none⟩ = some (.bool false) := cells_left hb7 z4''
    have yy4 : w7.frozen? ⟨w.heap.size + 1, 4, none⟩ = false := frozen_left hb7 hzc y4''
    have zz5 : w7.cell? ⟨w.heap.size + 1, 5, none⟩ = some (.int .i64 0) := cells_left hb7 z5''
    have yy5 : w7.frozen? ⟨w.heap.size + 1, 5, none⟩ = false := frozen_left hb7 hzc y5''
    have zz6 : w7.cell? ⟨w.heap.size + 1, 6, none⟩ = some (.pointer none) := cells_left hb7 z6''
    have yy6 : w7.frozen? ⟨w.heap.size + 1, 6, none⟩ = false := frozen_left hb7 hzc y6''
    have zz7 : w7.cell? ⟨w.heap.size + 1, 7, none⟩ = some (.pointer none) := cells_left hb7 z7''
    have yy7 : w7.frozen? ⟨w.heap.size + 1, 7, none⟩ = false := frozen_left hb7 hzc y7''
    clear g0 h0 z0'' y0'' g1 h1 z1'' y1'' g2 h2 z2'' y2'' g3 h3 z3'' y3'' g4 h4 z4'' y4'' g5 h5 z5'' y5'' g6 h6 z6'' y6'' g7 h7 z7'' y7''
    go_wp2_with fail
    exact bodyPost_ret (v := .agg #[.bool s.a.v6, .int .u64 s.a.hi, .int .u64 s.a.lo, .int .i64 s.n, .bool false, .int .i64 0, .pointer none, .pointer (some ⟨b, 0, none⟩)]) (by simp [results, Try.results41, go_sem, zz0, zz1, zz2, zz3, zz4, zz5, zz6, zz7]) rfl ⟨rfl, (((((((((hlow.trans (hb7.mono (by have := hlow.size; omega))).setCell (p := ⟨g, _, none⟩) (show w.heap.size ≤ g by omega) _).setCell (by simp) _).setCell (by simp) _).setCell (by simp) _).setCell (by simp) _).setCell (by simp) _).setCell (by simp) _).setCell (by simp) _).setCell (by simp) _⟩
end Go.Proofs.Ytgnpnmdndlodlaa.Tr
