/- Contracts of the document's answers for layer 12 (one ban). -/
import Derived.Test.YtgnjbbohphoojaaBanDoor
import Derived.Test.YtgnjbbohphoojaaRef11All
import Derived.Test.YtgnjbbohphoojaaRef09All
namespace Go.Proofs.Ytgnjbbohphoojaa.Ba
set_option maxRecDepth 100000
open Go.ChangeShapes Go.WideShapes Go.ChangeAt Go.RowKit
open Dec Words V4 V6 Ad Ci
set_option linter.unusedVariables false
abbrev SBA (x : Ban) (a : Adr) (w : World) (w' : World) : Prop := w'.cell? ⟨w.heap.size, 0, none⟩ = some (.bool x.n.a.v6) ∧ w'.cell? ⟨w.heap.size, 1, none⟩ = some (.int .u64 x.n.a.hi) ∧ w'.cell? ⟨w.heap.size, 2, none⟩ = some (.int .u64 x.n.a.lo) ∧ w'.cell? ⟨w.heap.size, 3, none⟩ = some (.int .i64 x.n.n) ∧ w'.cell? ⟨w.heap.size, 4, none⟩ = some (.int .i64 x.t) ∧ w'.cell? ⟨w.heap.size + 1, 0, none⟩ = some (.bool a.v6) ∧ w'.cell? ⟨w.heap.size + 1, 1, none⟩ = some (.int .u64 a.hi) ∧ w'.cell? ⟨w.heap.size + 1, 2, none⟩ = some (.int .u64 a.lo) ∧ Stays ((w.alloc (.cells #[.bool x.n.a.v6, .int .u64 x.n.a.hi, .int .u64 x.n.a.lo, .int .i64 x.n.n, .int .i64 x.t] 45)).alloc (.cells #[.bool a.v6, .int .u64 a.hi, .int .u64 a.lo] 31)) w'
theorem SBA.of {x : Ban} {a : Adr} {w w' : World} (h : Stays ((w.alloc (.cells #[.bool x.n.a.v6, .int .u64 x.n.a.hi, .int .u64 x.n.a.lo, .int .i64 x.n.n, .int .i64 x.t] 45)).alloc (.cells #[.bool a.v6, .int .u64 a.hi, .int .u64 a.lo] 31)) w') : SBA x a w w' := by
  have s0 : Stays (w.alloc (.cells #[.bool x.n.a.v6, .int .u64 x.n.a.hi, .int .u64 x.n.a.lo, .int .i64 x.n.n, .int .i64 x.t] 45)) ((w.alloc (.cells #[.bool x.n.a.v6, .int .u64 x.n.a.hi, .int .u64 x.n.a.lo, .int .i64 x.n.n, .int .i64 x.t] 45)).alloc (.cells #[.bool a.v6, .int .u64 a.hi, .int .u64 a.lo] 31)) := ((Below.refl _ _).alloc (by first | (simp; done) | (simp; omega)) _)
  have n0_0 : (w.alloc (.cells #[.bool x.n.a.v6, .int .u64 x.n.a.hi, .int .u64 x.n.a.lo, .int .i64 x.n.n, .int .i64 x.t] 45)).cell? ⟨w.heap.size, 0, none⟩ = some (.bool x.n.a.v6) := by
    have k := cell_at (w) #[.bool x.n.a.v6, .int .u64 x.n.a.hi, .int .u64 x.n.a.lo, .int .i64 x.n.n, .int .i64 x.t] 45 0 _ rfl
    exact k
  have n0_1 : (w.alloc (.cells #[.bool x.n.a.v6, .int .u64 x.n.a.hi, .int .u64 x.n.a.lo, .int .i64 x.n.n, .int .i64 x.t] 45)).cell? ⟨w.heap.size, 1, none⟩ = some (.int .u64 x.n.a.hi) := by
    have k := cell_at (w) #[.bool x.n.a.v6, .int .u64 x.n.a.hi, .int .u64 x.n.a.lo, .int .i64 x.n.n, .int .i64 x.t] 45 1 _ rfl
    exact k
  have n0_2 : (w.alloc (.cells #[.bool x.n.a.v6, .int .u64 x.n.a.hi, .int .u64 x.n.a.lo, .int .i64 x.n.n, .int .i64 x.t] 45)).cell? ⟨w.heap.size, 2, none⟩ = some (.int .u64 x.n.a.lo) := by
    have k := cell_at (w) #[.bool x.n.a.v6, .int .u64 x.n.a.hi, .int .u64 x.n.a.lo, .int .i64 x.n.n, .int .i64 x.t] 45 2 _ rfl
    exact k
  have n0_3 : (w.alloc (.cells #[.bool x.n.a.v6, .int .u64 x.n.a.hi, .int .u64 x.n.a.lo, .int .i64 x.n.n, .int .i64 x.t] 45)).cell? ⟨w.heap.size, 3, none⟩ = some (.int .i64 x.n.n) := by
    have k := cell_at (w) #[.bool x.n.a.v6, .int .u64 x.n.a.hi, .int .u64 x.n.a.lo, .int .i64 x.n.n, .int .i64 x.t] 45 3 _ rfl
    exact k
  have n0_4 : (w.alloc (.cells #[.bool x.n.a.v6, .int .u64 x.n.a.hi, .int .u64 x.n.a.lo, .int .i64 x.n.n, .int .i64 x.t] 45)).cell? ⟨w.heap.size, 4, none⟩ = some (.int .i64 x.t) := by
    have k := cell_at (w) #[.bool x.n.a.v6, .int .u64 x.n.a.hi, .int .u64 x.n.a.lo, .int .i64 x.n.n, .int .i64 x.t] 45 4 _ rfl
    exact k
  have n1_0 : ((w.alloc (.cells #[.bool x.n.a.v6, .int .u64 x.n.a.hi, .int .u64 x.n.a.lo, .int .i64 x.n.n, .int .i64 x.t] 45)).alloc (.cells #[.bool a.v6, .int .u64 a.hi, .int .u64 a.lo] 31)).cell? ⟨w.heap.size + 1, 0, none⟩ = some (.bool a.v6) := by
    have k := cell_at (w.alloc (.cells #[.bool x.n.a.v6, .int .u64 x.n.a.hi, .int .u64 x.n.a.lo, .int .i64 x.n.n, .int .i64 x.t] 45)) #[.bool a.v6, .int .u64 a.hi, .int .u64 a.lo] 31 0 _ rfl
    rwa [show (w.alloc (.cells #[.bool x.n.a.v6, .int .u64 x.n.a.hi, .int .u64 x.n.a.lo, .int .i64 x.n.n, .int .i64 x.t] 45)).heap.size = w.heap.size + 1 by simp] at k
  have n1_1 : ((w.alloc (.cells #[.bool x.n.a.v6, .int .u64 x.n.a.hi, .int .u64 x.n.a.lo, .int .i64 x.n.n, .int .i64 x.t] 45)).alloc (.cells #[.bool a.v6, .int .u64 a.hi, .int .u64 a.lo] 31)).cell? ⟨w.heap.size + 1, 1, none⟩ = some (.int .u64 a.hi) := by
    have k := cell_at (w.alloc (.cells #[.bool x.n.a.v6, .int .u64 x.n.a.hi, .int .u64 x.n.a.lo, .int .i64 x.n.n, .int .i64 x.t] 45)) #[.bool a.v6, .int .u64 a.hi, .int .u64 a.lo] 31 1 _ rfl
    rwa [show (w.alloc (.cells #[.bool x.n.a.v6, .int .u64 x.n.a.hi, .int .u64 x.n.a.lo, .int .i64 x.n.n, .int .i64 x.t] 45)).heap.size = w.heap.size + 1 by simp] at k
  have n1_2 : ((w.alloc (.cells #[.bool x.n.a.v6, .int .u64 x.n.a.hi, .int .u64 x.n.a.lo, .int .i64 x.n.n, .int .i64 x.t] 45)).alloc (.cells #[.bool a.v6, .int .u64 a.hi, .int .u64 a.lo] 31)).cell? ⟨w.heap.size + 1, 2, none⟩ = some (.int .u64 a.lo) := by
    have k := cell_at (w.alloc (.cells #[.bool x.n.a.v6, .int .u64 x.n.a.hi, .int .u64 x.n.a.lo, .int .i64 x.n.n, .int .i64 x.t] 45)) #[.bool a.v6, .int .u64 a.hi, .int .u64 a.lo] 31 2 _ rfl
    rwa [show (w.alloc (.cells #[.bool x.n.a.v6, .int .u64 x.n.a.hi, .int .u64 x.n.a.lo, .int .i64 x.n.n, .int .i64 x.t] 45)).heap.size = w.heap.size + 1 by simp] at k
  exact ⟨Ci.cells_left h (Ci.cells_left s0 n0_0), Ci.cells_left h (Ci.cells_left s0 n0_1), Ci.cells_left h (Ci.cells_left s0 n0_2), Ci.cells_left h (Ci.cells_left s0 n0_3), Ci.cells_left h (Ci.cells_left s0 n0_4), Ci.cells_left h n1_0, Ci.cells_left h n1_1, Ci.cells_left h n1_2, h⟩
theorem SBA.on {x : Ban} {a : Adr} {w w1 w2 : World} (h : SBA x a w w1) (k : Below w1.heap.size w1 w2) : SBA x a w w2 := SBA.of (low_trans h.2.2.2.2.2.2.2.2 k)
theorem SBA.low {x : Ban} {a : Adr} {w w1 : World} (h : SBA x a w w1) : Below w.heap.size w w1 := (((Below.refl _ _).alloc (by first | (simp; done) | (simp; omega)) _).alloc (by first | (simp; done) | (simp; omega)) _).trans (h.2.2.2.2.2.2.2.2.mono (by simp; omega))
set_option maxHeartbeats 2000000 in
theorem rhitsB_any (x : Ban) (a : Adr) (now : Int) (w : World) (hx : x.ok) (ha : a.ok) :
    Calls Try.prog 11 #[.agg #[.bool x.n.a.v6, .int .u64 x.n.a.hi, .int .u64 x.n.a.lo, .int .i64 x.n.n, .int .i64 x.t], .agg #[.bool a.v6, .int .u64 a.hi, .int .u64 a.lo], .int .i64 now] w fun e w' => e = .returned (.bool (hitsB x a now)) ∧ Below w.heap.size w w' := by
  have K1 : Hid (∀ W, SBA x a w W → Calls Try.prog 21 #[.agg #[.bool x.n.a.v6, .int .u64 x.n.a.hi, .int .u64 x.n.a.lo, .int .i64 x.n.n], .agg #[.bool a.v6, .int .u64 a.hi, .int .u64 a.lo]] W fun e w' => e = .returned (.bool (hasN x.n a)) ∧ SBA x a w w') := Lib.hid fun W h => by
    have hs := h.2.2.2.2.2.2.2.2
    have hc : Calls Try.prog 21 #[.agg #[.bool x.n.a.v6, .int .u64 x.n.a.hi, .int .u64 x.n.a.lo, .int .i64 x.n.n], .agg #[.bool a.v6, .int .u64 a.hi, .int .u64 a.lo]] W fun e w' => e = .returned (.bool (hasN x.n a)) ∧ Below W.heap.size W w' := rhasN_any x.n a W hx.1 ha
    exact hc.mono fun e w' ⟨he, hb⟩ => ⟨he, SBA.of (low_trans hs hb)⟩
  have hk0 : SBA x a w ((w.alloc (.cells #[.bool x.n.a.v6, .int .u64 x.n.a.hi, .int .u64 x.n.a.lo, .int .i64 x.n.n, .int .i64 x.t] 45)).alloc (.cells #[.bool a.v6, .int .u64 a.hi, .int .u64 a.lo] 31)) := SBA.of (Below.refl _ _)
  obtain ⟨c0, c1, c2, c3, c4, c5, c6, c7, hs⟩ := id hk0
  have E : Hid (hitsB x a now = (decide (now < x.t) && hasN x.n a)) := Lib.hid rfl
  by_cases h1 : now < x.t
  · have E0 : Hid (hitsB x a now = hasN x.n a) := Lib.hid (by rw [E.out]; simp [h1])
    go_enter Try.func11, Try.ntmps11
    go_wp2_with fail
    (with_reducible refine (K1.out _ hk0).mono ?_)
    rintro e w1 ⟨rfl, hk1⟩
    clear c0 c1 c2 c3 c4 c5 c6 c7 hs
    obtain ⟨c0, c1, c2, c3, c4, c5, c6, c7, hs⟩ := id hk1
    go_wp2_with fail
    go_ret
    exact ⟨ret_b (by rw [E0.out]), SBA.low hk1⟩
  · have E0 : Hid (hitsB x a now = false) := Lib.hid (by rw [E.out]; simp [h1])
    go_enter Try.func11, Try.ntmps11
    go_wp2_with fail
    go_ret
    exact ⟨ret_b (by rw [E0.out]), SBA.low hk0⟩
end Go.Proofs.Ytgnjbbohphoojaa.Ba
/- Contracts of the document's answers for layer 12 (one ban): what is read. -/
namespace Go.Proofs.Ytgnjbbohphoojaa.Ba
set_option maxRecDepth 100000
open Go.ChangeShapes Go.WideShapes Go.ChangeAt Go.RowKit
open Dec Words V4 V6 Ad Ci
set_option linter.unusedVariables false
set_option linter.unusedSimpArgs false
attribute [local irreducible] World.setCell
theorem preB_at {l : List UInt8} {k : Nat} (h : k < l.length) (e : l[k] = 32) (hn : ∀ j (h : j < l.length), j < k → l[j] ≠ 32) : preB l = l.take k ∧ (32 : UInt8) ∈ l := by
  have hu : (32 : UInt8) ∉ l.take k := fun hm => by
    obtain ⟨j, hj, e2⟩ := List.getElem_of_mem hm
    rw [List.length_take] at hj
    rw [List.getElem_take] at e2
    exact hn j (by omega) (by omega) e2
  have s : l.take k ++ 32 :: l.drop (k + 1) = l := by
    rw [← e, List.getElem_cons_drop, List.take_append_drop]
  refine ⟨?_, by rw [← e]; exact List.getElem_mem h⟩
  have := preB_mid hu (l.drop (k + 1))
  rwa [s] at this
theorem no_blank {l : List UInt8} (hn : ∀ j (h : j < l.length), l[j] ≠ 32) : (32 : UInt8) ∉ l := fun hm => by
  obtain ⟨j, hj, e⟩ := List.getElem_of_mem hm
  exact hn j hj e
end Go.Proofs.Ytgnjbbohphoojaa.Ba
