/- Contracts of package ban. -/
import Derived.Test.YtefkolkagebffaaGreatDoorBanDoor
import Derived.Test.YtefkolkagebffaaGreatDoorWordsLines
import Derived.Lib.MinMax
namespace Go.Proofs.YtefkolkagebffaaGreatDoor.Ba
set_option maxRecDepth 100000
open Go.ChangeShapes Go.WideShapes Go.ChangeAt Go.RowKit
open Dec Words V4 V6 Ad Ci
set_option linter.unusedVariables false
abbrev CBA (x : Ban) (a : Adr) (w : World) (w' : World) : Prop := w'.cell? ⟨w.heap.size, 0, none⟩ = some (.bool x.n.a.v6) ∧ w'.cell? ⟨w.heap.size, 1, none⟩ = some (.int .u64 x.n.a.hi) ∧ w'.cell? ⟨w.heap.size, 2, none⟩ = some (.int .u64 x.n.a.lo) ∧ w'.cell? ⟨w.heap.size, 3, none⟩ = some (.int .i64 x.n.n) ∧ w'.cell? ⟨w.heap.size, 4, none⟩ = some (.int .i64 x.t) ∧ w'.cell? ⟨w.heap.size + 1, 0, none⟩ = some (.bool a.v6) ∧ w'.cell? ⟨w.heap.size + 1, 1, none⟩ = some (.int .u64 a.hi) ∧ w'.cell? ⟨w.heap.size + 1, 2, none⟩ = some (.int .u64 a.lo) ∧ Stays ((w.alloc (.cells #[.bool x.n.a.v6, .int .u64 x.n.a.hi, .int .u64 x.n.a.lo, .int .i64 x.n.n, .int .i64 x.t] 40)).alloc (.cells #[.bool a.v6, .int .u64 a.hi, .int .u64 a.lo] 36)) w'
theorem CBA.of {x : Ban} {a : Adr} {w w' : World} (h : Stays ((w.alloc (.cells #[.bool x.n.a.v6, .int .u64 x.n.a.hi, .int .u64 x.n.a.lo, .int .i64 x.n.n, .int .i64 x.t] 40)).alloc (.cells #[.bool a.v6, .int .u64 a.hi, .int .u64 a.lo] 36)) w') : CBA x a w w' := by
  have s0 : Stays (w.alloc (.cells #[.bool x.n.a.v6, .int .u64 x.n.a.hi, .int .u64 x.n.a.lo, .int .i64 x.n.n, .int .i64 x.t] 40)) ((w.alloc (.cells #[.bool x.n.a.v6, .int .u64 x.n.a.hi, .int .u64 x.n.a.lo, .int .i64 x.n.n, .int .i64 x.t] 40)).alloc (.cells #[.bool a.v6, .int .u64 a.hi, .int .u64 a.lo] 36)) := ((Below.refl _ _).alloc (by first | (simp; done) | (simp; omega)) _)
  have n0_0 : (w.alloc (.cells #[.bool x.n.a.v6, .int .u64 x.n.a.hi, .int .u64 x.n.a.lo, .int .i64 x.n.n, .int .i64 x.t] 40)).cell? ⟨w.heap.size, 0, none⟩ = some (.bool x.n.a.v6) := by
    have k := cell_at (w) #[.bool x.n.a.v6, .int .u64 x.n.a.hi, .int .u64 x.n.a.lo, .int .i64 x.n.n, .int .i64 x.t] 40 0 _ rfl
    exact k
  have n0_1 : (w.alloc (.cells #[.bool x.n.a.v6, .int .u64 x.n.a.hi, .int .u64 x.n.a.lo, .int .i64 x.n.n, .int .i64 x.t] 40)).cell? ⟨w.heap.size, 1, none⟩ = some (.int .u64 x.n.a.hi) := by
    have k := cell_at (w) #[.bool x.n.a.v6, .int .u64 x.n.a.hi, .int .u64 x.n.a.lo, .int .i64 x.n.n, .int .i64 x.t] 40 1 _ rfl
    exact k
  have n0_2 : (w.alloc (.cells #[.bool x.n.a.v6, .int .u64 x.n.a.hi, .int .u64 x.n.a.lo, .int .i64 x.n.n, .int .i64 x.t] 40)).cell? ⟨w.heap.size, 2, none⟩ = some (.int .u64 x.n.a.lo) := by
    have k := cell_at (w) #[.bool x.n.a.v6, .int .u64 x.n.a.hi, .int .u64 x.n.a.lo, .int .i64 x.n.n, .int .i64 x.t] 40 2 _ rfl
    exact k
  have n0_3 : (w.alloc (.cells #[.bool x.n.a.v6, .int .u64 x.n.a.hi, .int .u64 x.n.a.lo, .int .i64 x.n.n, .int .i64 x.t] 40)).cell? ⟨w.heap.size, 3, none⟩ = some (.int .i64 x.n.n) := by
    have k := cell_at (w) #[.bool x.n.a.v6, .int .u64 x.n.a.hi, .int .u64 x.n.a.lo, .int .i64 x.n.n, .int .i64 x.t] 40 3 _ rfl
    exact k
  have n0_4 : (w.alloc (.cells #[.bool x.n.a.v6, .int .u64 x.n.a.hi, .int .u64 x.n.a.lo, .int .i64 x.n.n, .int .i64 x.t] 40)).cell? ⟨w.heap.size, 4, none⟩ = some (.int .i64 x.t) := by
    have k := cell_at (w) #[.bool x.n.a.v6, .int .u64 x.n.a.hi, .int .u64 x.n.a.lo, .int .i64 x.n.n, .int .i64 x.t] 40 4 _ rfl
    exact k
  have n1_0 : ((w.alloc (.cells #[.bool x.n.a.v6, .int .u64 x.n.a.hi, .int .u64 x.n.a.lo, .int .i64 x.n.n, .int .i64 x.t] 40)).alloc (.cells #[.bool a.v6, .int .u64 a.hi, .int .u64 a.lo] 36)).cell? ⟨w.heap.size + 1, 0, none⟩ = some (.bool a.v6) := by
    have k := cell_at (w.alloc (.cells #[.bool x.n.a.v6, .int .u64 x.n.a.hi, .int .u64 x.n.a.lo, .int .i64 x.n.n, .int .i64 x.t] 40)) #[.bool a.v6, .int .u64 a.hi, .int .u64 a.lo] 36 0 _ rfl
    rwa [show (w.alloc (.cells #[.bool x.n.a.v6, .int .u64 x.n.a.hi, .int .u64 x.n.a.lo, .int .i64 x.n.n, .int .i64 x.t] 40)).heap.size = w.heap.size + 1 by simp] at k
  have n1_1 : ((w.alloc (.cells #[.bool x.n.a.v6, .int .u64 x.n.a.hi, .int .u64 x.n.a.lo, .int .i64 x.n.n, .int .i64 x.t] 40)).alloc (.cells #[.bool a.v6, .int .u64 a.hi, .int .u64 a.lo] 36)).cell? ⟨w.heap.size + 1, 1, none⟩ = some (.int .u64 a.hi) := by
    have k := cell_at (w.alloc (.cells #[.bool x.n.a.v6, .int .u64 x.n.a.hi, .int .u64 x.n.a.lo, .int .i64 x.n.n, .int .i64 x.t] 40)) #[.bool a.v6, .int .u64 a.hi, .int .u64 a.lo] 36 1 _ rfl
    rwa [show (w.alloc (.cells #[.bool x.n.a.v6, .int .u64 x.n.a.hi, .int .u64 x.n.a.lo, .int .i64 x.n.n, .int .i64 x.t] 40)).heap.size = w.heap.size + 1 by simp] at k
  have n1_2 : ((w.alloc (.cells #[.bool x.n.a.v6, .int .u64 x.n.a.hi, .int .u64 x.n.a.lo, .int .i64 x.n.n, .int .i64 x.t] 40)).alloc (.cells #[.bool a.v6, .int .u64 a.hi, .int .u64 a.lo] 36)).cell? ⟨w.heap.size + 1, 2, none⟩ = some (.int .u64 a.lo) := by
    have k := cell_at (w.alloc (.cells #[.bool x.n.a.v6, .int .u64 x.n.a.hi, .int .u64 x.n.a.lo, .int .i64 x.n.n, .int .i64 x.t] 40)) #[.bool a.v6, .int .u64 a.hi, .int .u64 a.lo] 36 2 _ rfl
    rwa [show (w.alloc (.cells #[.bool x.n.a.v6, .int .u64 x.n.a.hi, .int .u64 x.n.a.lo, .int .i64 x.n.n, .int .i64 x.t] 40)).heap.size = w.heap.size + 1 by simp] at k
  exact ⟨Ci.cells_left h (Ci.cells_left s0 n0_0), Ci.cells_left h (Ci.cells_left s0 n0_1), Ci.cells_left h (Ci.cells_left s0 n0_2), Ci.cells_left h (Ci.cells_left s0 n0_3), Ci.cells_left h (Ci.cells_left s0 n0_4), Ci.cells_left h n1_0, Ci.cells_left h n1_1, Ci.cells_left h n1_2, h⟩
theorem CBA.on {x : Ban} {a : Adr} {w w1 w2 : World} (h : CBA x a w w1) (k : Below w1.heap.size w1 w2) : CBA x a w w2 := CBA.of (low_trans h.2.2.2.2.2.2.2.2 k)
theorem CBA.low {x : Ban} {a : Adr} {w w1 : World} (h : CBA x a w w1) : Below w.heap.size w w1 := (((Below.refl _ _).alloc (by first | (simp; done) | (simp; omega)) _).alloc (by first | (simp; done) | (simp; omega)) _).trans (h.2.2.2.2.2.2.2.2.mono (by simp; omega))
set_option maxHeartbeats 2000000 in
theorem rightB_any (x : Ban) (w : World) (hx : x.ok) :
    Calls Tryz.prog 19 #[.agg #[.bool x.n.a.v6, .int .u64 x.n.a.hi, .int .u64 x.n.a.lo, .int .i64 x.n.n, .int .i64 x.t]] w fun e w' => e = .returned (.bool (rightB x)) ∧ Below w.heap.size w w' := by
  have K1 : Hid (∀ W, SN1 x w W → Calls Tryz.prog 38 #[.agg #[.bool x.n.a.v6, .int .u64 x.n.a.hi, .int .u64 x.n.a.lo, .int .i64 x.n.n]] W fun e w' => e = .returned (.bool (rightN x.n)) ∧ SN1 x w w') := Lib.hid fun W h => by
    have hs := h.2.2.2.2.2
    have hc : Calls Tryz.prog 38 #[.agg #[.bool x.n.a.v6, .int .u64 x.n.a.hi, .int .u64 x.n.a.lo, .int .i64 x.n.n]] W fun e w' => e = .returned (.bool (rightN x.n)) ∧ Below W.heap.size W w' := rightN_any x.n W hx.1
    exact hc.mono fun e w' ⟨he, hb⟩ => ⟨he, SN1.of (low_trans hs hb)⟩
  have hk0 : SN1 x w (w.alloc (.cells #[.bool x.n.a.v6, .int .u64 x.n.a.hi, .int .u64 x.n.a.lo, .int .i64 x.n.n, .int .i64 x.t] 40)) := SN1.of (Below.refl _ _)
  obtain ⟨c0, c1, c2, c3, c4, hs⟩ := id hk0
  have E : Hid (rightB x = (rightN x.n && (decide (0 < x.t) && decide (x.t ≤ 1099511627776)))) := Lib.hid rfl
  cases hr : rightN x.n
  · rw [hr] at K1 E
    clear hr
    go_enter Tryz.func19, Tryz.ntmps19
    go_wp2_with fail
    (with_reducible refine (K1.out _ hk0).mono ?_)
    rintro e w1 ⟨rfl, hk1⟩
    clear c0 c1 c2 c3 c4 hs
    obtain ⟨c0, c1, c2, c3, c4, hs⟩ := id hk1
    go_wp2_with fail
    go_ret
    exact ⟨ret_b (by rw [E.out]; rfl), SN1.low hk1⟩
  · rw [hr] at K1 E
    clear hr
    by_cases h1 : 0 < x.t
    · have p1 : 1 ≤ x.t := by omega
      by_cases h2 : x.t ≤ 1099511627776
      · have p2 : x.t < 1099511627777 := by omega
        go_enter Tryz.func19, Tryz.ntmps19
        go_wp2_with fail
        (with_reducible refine (K1.out _ hk0).mono ?_)
        rintro e w1 ⟨rfl, hk1⟩
        clear c0 c1 c2 c3 c4 hs
        obtain ⟨c0, c1, c2, c3, c4, hs⟩ := id hk1
        go_wp2_with fail
        go_ret
        exact ⟨ret_b (by rw [E.out, Bool.eq_iff_iff]; first | (simp; done) | (simp; omega)), SN1.low hk1⟩
      · have p2 : ¬ x.t < 1099511627777 := by omega
        go_enter Tryz.func19, Tryz.ntmps19
        go_wp2_with fail
        (with_reducible refine (K1.out _ hk0).mono ?_)
        rintro e w1 ⟨rfl, hk1⟩
        clear c0 c1 c2 c3 c4 hs
        obtain ⟨c0, c1, c2, c3, c4, hs⟩ := id hk1
        go_wp2_with fail
        go_ret
        exact ⟨ret_b (by rw [E.out, Bool.eq_iff_iff]; first | (simp; done) | (simp; omega)), SN1.low hk1⟩
    · have p1 : ¬ 1 ≤ x.t := by omega
      go_enter Tryz.func19, Tryz.ntmps19
      go_wp2_with fail
      (with_reducible refine (K1.out _ hk0).mono ?_)
      rintro e w1 ⟨rfl, hk1⟩
      clear c0 c1 c2 c3 c4 hs
      obtain ⟨c0, c1, c2, c3, c4, hs⟩ := id hk1
      go_wp2_with fail
      go_ret
      exact ⟨ret_b (by rw [E.out, Bool.eq_iff_iff]; first | (simp; done) | (simp; omega)), SN1.low hk1⟩
abbrev CBB (x y : Ban) (w : World) (w' : World) : Prop := w'.cell? ⟨w.heap.size, 0, none⟩ = some (.bool x.n.a.v6) ∧ w'.cell? ⟨w.heap.size, 1, none⟩ = some (.int .u64 x.n.a.hi) ∧ w'.cell? ⟨w.heap.size, 2, none⟩ = some (.int .u64 x.n.a.lo) ∧ w'.cell? ⟨w.heap.size, 3, none⟩ = some (.int .i64 x.n.n) ∧ w'.cell? ⟨w.heap.size, 4, none⟩ = some (.int .i64 x.t) ∧ w'.cell? ⟨w.heap.size + 1, 0, none⟩ = some (.bool y.n.a.v6) ∧ w'.cell? ⟨w.heap.size + 1, 1, none⟩ = some (.int .u64 y.n.a.hi) ∧ w'.cell? ⟨w.heap.size + 1, 2, none⟩ = some (.int .u64 y.n.a.lo) ∧ w'.cell? ⟨w.heap.size + 1, 3, none⟩ = some (.int .i64 y.n.n) ∧ w'.cell? ⟨w.heap.size + 1, 4, none⟩ = some (.int .i64 y.t) ∧ w'.cell? ⟨w.heap.size + 2, 0, none⟩ = some (.bool false) ∧ w'.cell? ⟨w.heap.size + 2, 1, none⟩ = some (.int .u64 0) ∧ w'.cell? ⟨w.heap.size + 2, 2, none⟩ = some (.int .u64 0) ∧ w'.cell? ⟨w.heap.size + 2, 3, none⟩ = some (.int .i64 0) ∧ w'.cell? ⟨w.heap.size + 2, 4, none⟩ = some (.int .i64 0) ∧ Stays (((w.alloc (.cells #[.bool x.n.a.v6, .int .u64 x.n.a.hi, .int .u64 x.n.a.lo, .int .i64 x.n.n, .int .i64 x.t] 40)).alloc (.cells #[.bool y.n.a.v6, .int .u64 y.n.a.hi, .int .u64 y.n.a.lo, .int .i64 y.n.n, .int .i64 y.t] 40)).alloc (.cells #[.bool false, .int .u64 0, .int .u64 0, .int .i64 0, .int .i64 0] 40)) w'
theorem CBB.of {x y : Ban} {w w' : World} (h : Stays (((w.alloc (.cells #[.bool x.n.a.v6, .int .u64 x.n.a.hi, .int .u64 x.n.a.lo, .int .i64 x.n.n, .int .i64 x.t] 40)).alloc (.cells #[.bool y.n.a.v6, .int .u64 y.n.a.hi, .int .u64 y.n.a.lo, .int .i64 y.n.n, .int .i64 y.t] 40)).alloc (.cells #[.bool false, .int .u64 0, .int .u64 0, .int .i64 0, .int .i64 0] 40)) w') : CBB x y w w' := by
  have s0 : Stays (w.alloc (.cells #[.bool x.n.a.v6, .int .u64 x.n.a.hi, .int .u64 x.n.a.lo, .int .i64 x.n.n, .int .i64 x.t] 40)) (((w.alloc (.cells #[.bool x.n.a.v6, .int .u64 x.n.a.hi, .int .u64 x.n.a.lo, .int .i64 x.n.n, .int .i64 x.t] 40)).alloc (.cells #[.bool y.n.a.v6, .int .u64 y.n.a.hi, .int .u64 y.n.a.lo, .int .i64 y.n.n, .int .i64 y.t] 40)).alloc (.cells #[.bool false, .int .u64 0, .int .u64 0, .int .i64 0, .int .i64 0] 40)) := (((Below.refl _ _).alloc (by first | (simp; done) | (simp; omega)) _).alloc (by first | (simp; done) | (simp; omega)) _)
  have n0_0 : (w.alloc (.cells #[.bool x.n.a.v6, .int .u64 x.n.a.hi, .int .u64 x.n.a.lo, .int .i64 x.n.n, .int .i64 x.t] 40)).cell? ⟨w.heap.size, 0, none⟩ = some (.bool x.n.a.v6) := by
    have k := cell_at (w) #[.bool x.n.a.v6, .int .u64 x.n.a.hi, .int .u64 x.n.a.lo, .int .i64 x.n.n, .int .i64 x.t] 40 0 _ rfl
    exact k
  have n0_1 : (w.alloc (.cells #[.bool x.n.a.v6, .int .u64 x.n.a.hi, .int .u64 x.n.a.lo, .int .i64 x.n.n, .int .i64 x.t] 40)).cell? ⟨w.heap.size, 1, none⟩ = some (.int .u64 x.n.a.hi) := by
    have k := cell_at (w) #[.bool x.n.a.v6, .int .u64 x.n.a.hi, .int .u64 x.n.a.lo, .int .i64 x.n.n, .int .i64 x.t] 40 1 _ rfl
    exact k
  have n0_2 : (w.alloc (.cells #[.bool x.n.a.v6, .int .u64 x.n.a.hi, .int .u64 x.n.a.lo, .int .i64 x.n.n, .int .i64 x.t] 40)).cell? ⟨w.heap.size, 2, none⟩ = some (.int .u64 x.n.a.lo) := by
    have k := cell_at (w) #[.bool x.n.a.v6, .int .u64 x.n.a.hi, .int .u64 x.n.a.lo, .int .i64 x.n.n, .int .i64 x.t] 40 2 _ rfl
    exact k
  have n0_3 : (w.alloc (.cells #[.bool x.n.a.v6, .int .u64 x.n.a.hi, .int .u64 x.n.a.lo, .int .i64 x.n.n, .int .i64 x.t] 40)).cell? ⟨w.heap.size, 3, none⟩ = some (.int .i64 x.n.n) := by
    have k := cell_at (w) #[.bool x.n.a.v6, .int .u64 x.n.a.hi, .int .u64 x.n.a.lo, .int .i64 x.n.n, .int .i64 x.t] 40 3 _ rfl
    exact k
  have n0_4 : (w.alloc (.cells #[.bool x.n.a.v6, .int .u64 x.n.a.hi, .int .u64 x.n.a.lo, .int .i64 x.n.n, .int .i64 x.t] 40)).cell? ⟨w.heap.size, 4, none⟩ = some (.int .i64 x.t) := by
    have k := cell_at (w) #[.bool x.n.a.v6, .int .u64 x.n.a.hi, .int .u64 x.n.a.lo, .int .i64 x.n.n, .int .i64 x.t] 40 4 _ rfl
    exact k
  have s1 : Stays ((w.alloc (.cells #[.bool x.n.a.v6, .int .u64 x.n.a.hi, .int .u64 x.n.a.lo, .int .i64 x.n.n, .int .i64 x.t] 40)).alloc (.cells #[.bool y.n.a.v6, .int .u64 y.n.a.hi, .int .u64 y.n.a.lo, .int .i64 y.n.n, .int .i64 y.t] 40)) (((w.alloc (.cells #[.bool x.n.a.v6, .int .u64 x.n.a.hi, .int .u64 x.n.a.lo, .int .i64 x.n.n, .int .i64 x.t] 40)).alloc (.cells #[.bool y.n.a.v6, .int .u64 y.n.a.hi, .int .u64 y.n.a.lo, .int .i64 y.n.n, .int .i64 y.t] 40)).alloc (.cells #[.bool false, .int .u64 0, .int .u64 0, .int .i64 0, .int .i64 0] 40)) := ((Below.refl _ _).alloc (by first | (simp; done) | (simp; omega)) _)
  have n1_0 : ((w.alloc (.cells #[.bool x.n.a.v6, .int .u64 x.n.a.hi, .int .u64 x.n.a.lo, .int .i64 x.n.n, .int .i64 x.t] 40)).alloc (.cells #[.bool y.n.a.v6, .int .u64 y.n.a.hi, .int .u64 y.n.a.lo, .int .i64 y.n.n, .int .i64 y.t] 40)).cell? ⟨w.heap.size + 1, 0, none⟩ = some (.bool y.n.a.v6) := by
    have k := cell_at (w.alloc (.cells #[.bool x.n.a.v6, .int .u64 x.n.a.hi, .int .u64 x.n.a.lo, .int .i64 x.n.n, .int .i64 x.t] 40)) #[.bool y.n.a.v6, .int .u64 y.n.a.hi, .int .u64 y.n.a.lo, .int .i64 y.n.n, .int .i64 y.t] 40 0 _ rfl
    rwa [show (w.alloc (.cells #[.bool x.n.a.v6, .int .u64 x.n.a.hi, .int .u64 x.n.a.lo, .int .i64 x.n.n, .int .i64 x.t] 40)).heap.size = w.heap.size + 1 by simp] at k
  have n1_1 : ((w.alloc (.cells #[.bool x.n.a.v6, .int .u64 x.n.a.hi, .int .u64 x.n.a.lo, .int .i64 x.n.n, .int .i64 x.t] 40)).alloc (.cells #[.bool y.n.a.v6, .int .u64 y.n.a.hi, .int .u64 y.n.a.lo, .int .i64 y.n.n, .int .i64 y.t] 40)).cell? ⟨w.heap.size + 1, 1, none⟩ = some (.int .u64 y.n.a.hi) := by
    have k := cell_at (w.alloc (.cells #[.bool x.n.a.v6, .int .u64 x.n.a.hi, .int .u64 x.n.a.lo, .int .i64 x.n.n, .int .i64 x.t] 40)) #[.bool y.n.a.v6, .int .u64 y.n.a.hi, .int .u64 y.n.a.lo, .int .i64 y.n.n, .int .i64 y.t] 40 1 _ rfl
    rwa [show (w.alloc (.cells #[.bool x.n.a.v6, .int .u64 x.n.a.hi, .int .u64 x.n.a.lo, .int .i64 x.n.n, .int .i64 x.t] 40)).heap.size = w.heap.size + 1 by simp] at k
  have n1_2 : ((w.alloc (.cells #[.bool x.n.a.v6, .int .u64 x.n.a.hi, .int .u64 x.n.a.lo, .int .i64 x.n.n, .int .i64 x.t] 40)).alloc (.cells #[.bool y.n.a.v6, .int .u64 y.n.a.hi, .int .u64 y.n.a.lo, .int .i64 y.n.n, .int .i64 y.t] 40)).cell? ⟨w.heap.size + 1, 2, none⟩ = some (.int .u64 y.n.a.lo) := by
    have k := cell_at (w.alloc (.cells #[.bool x.n.a.v6, .int .u64 x.n.a.hi, .int .u64 x.n.a.lo, .int .i64 x.n.n, .int .i64 x.t] 40)) #[.bool y.n.a.v6, .int .u64 y.n.a.hi, .int .u64 y.n.a.lo, .int .i64 y.n.n, .int .i64 y.t] 40 2 _ rfl
    rwa [show (w.alloc (.cells #[.bool x.n.a.v6, .int .u64 x.n.a.hi, .int .u64 x.n.a.lo, .int .i64 x.n.n, .int .i64 x.t] 40)).heap.size = w.heap.size + 1 by simp] at k
  have n1_3 : ((w.alloc (.cells #[.bool x.n.a.v6, .int .u64 x.n.a.hi, .int .u64 x.n.a.lo, .int .i64 x.n.n, .int .i64 x.t] 40)).alloc (.cells #[.bool y.n.a.v6, .int .u64 y.n.a.hi, .int .u64 y.n.a.lo, .int .i64 y.n.n, .int .i64 y.t] 40)).cell? ⟨w.heap.size + 1, 3, none⟩ = some (.int .i64 y.n.n) := by
    have k := cell_at (w.alloc (.cells #[.bool x.n.a.v6, .int .u64 x.n.a.hi, .int .u64 x.n.a.lo, .int .i64 x.n.n, .int .i64 x.t] 40)) #[.bool y.n.a.v6, .int .u64 y.n.a.hi, .int .u64 y.n.a.lo, .int .i64 y.n.n, .int .i64 y.t] 40 3 _ rfl
    rwa [show (w.alloc (.cells #[.bool x.n.a.v6, .int .u64 x.n.a.hi, .int .u64 x.n.a.lo, .int .i64 x.n.n, .int .i64 x.t] 40)).heap.size = w.heap.size + 1 by simp] at k
  have n1_4 : ((w.alloc (.cells #[.bool x.n.a.v6, .int .u64 x.n.a.hi, .int .u64 x.n.a.lo, .int .i64 x.n.n, .int .i64 x.t] 40)).alloc (.cells #[.bool y.n.a.v6, .int .u64 y.n.a.hi, .int .u64 y.n.a.lo, .int .i64 y.n.n, .int .i64 y.t] 40)).cell? ⟨w.heap.size + 1, 4, none⟩ = some (.int .i64 y.t) := by
    have k := cell_at (w.alloc (.cells #[.bool x.n.a.v6, .int .u64 x.n.a.hi, .int .u64 x.n.a.lo, .int .i64 x.n.n, .int .i64 x.t] 40)) #[.bool y.n.a.v6, .int .u64 y.n.a.hi, .int .u64 y.n.a.lo, .int .i64 y.n.n, .int .i64 y.t] 40 4 _ rfl
    rwa [show (w.alloc (.cells #[.bool x.n.a.v6, .int .u64 x.n.a.hi, .int .u64 x.n.a.lo, .int .i64 x.n.n, .int .i64 x.t] 40)).heap.size = w.heap.size + 1 by simp] at k
  have n2_0 : (((w.alloc (.cells #[.bool x.n.a.v6, .int .u64 x.n.a.hi, .int .u64 x.n.a.lo, .int .i64 x.n.n, .int .i64 x.t] 40)).alloc (.cells #[.bool y.n.a.v6, .int .u64 y.n.a.hi, .int .u64 y.n.a.lo, .int .i64 y.n.n, .int .i64 y.t] 40)).alloc (.cells #[.bool false, .int .u64 0, .int .u64 0, .int .i64 0, .int .i64 0] 40)).cell? ⟨w.heap.size + 2, 0, none⟩ = some (.bool false) := by
    have k := cell_at ((w.alloc (.cells #[.bool x.n.a.v6, .int .u64 x.n.a.hi, .int .u64 x.n.a.lo, .int .i64 x.n.n, .int .i64 x.t] 40)).alloc (.cells #[.bool y.n.a.v6, .int .u64 y.n.a.hi, .int .u64 y.n.a.lo, .int .i64 y.n.n, .int .i64 y.t] 40)) #[.bool false, .int .u64 0, .int .u64 0, .int .i64 0, .int .i64 0] 40 0 _ rfl
    rwa [show ((w.alloc (.cells #[.bool x.n.a.v6, .int .u64 x.n.a.hi, .int .u64 x.n.a.lo, .int .i64 x.n.n, .int .i64 x.t] 40)).alloc (.cells #[.bool y.n.a.v6, .int .u64 y.n.a.hi, .int .u64 y.n.a.lo, .int .i64 y.n.n, .int .i64 y.t] 40)).heap.size = w.heap.size + 2 by simp] at k
  have n2_1 : (((w.alloc (.cells #[.bool x.n.a.v6, .int .u64 x.n.a.hi, .int .u64 x.n.a.lo, .int .i64 x.n.n, .int .i64 x.t] 40)).alloc (.cells #[.bool y.n.a.v6, .int .u64 y.n.a.hi, .int .u64 y.n.a.lo, .int .i64 y.n.n, .int .i64 y.t] 40)).alloc (.cells #[.bool false, .int .u64 0, .int .u64 0, .int .i64 0, .int .i64 0] 40)).cell? ⟨w.heap.size + 2, 1, none⟩ = some (.int .u64 0) := by
    have k := cell_at ((w.alloc (.cells #[.bool x.n.a.v6, .int .u64 x.n.a.hi, .int .u64 x.n.a.lo, .int .i64 x.n.n, .int .i64 x.t] 40)).alloc (.cells #[.bool y.n.a.v6, .int .u64 y.n.a.hi, .int .u64 y.n.a.lo, .int .i64 y.n.n, .int .i64 y.t] 40)) #[.bool false, .int .u64 0, .int .u64 0, .int .i64 0, .int .i64 0] 40 1 _ rfl
    rwa [show ((w.alloc (.cells #[.bool x.n.a.v6, .int .u64 x.n.a.hi, .int .u64 x.n.a.lo, .int .i64 x.n.n, .int .i64 x.t] 40)).alloc (.cells #[.bool y.n.a.v6, .int .u64 y.n.a.hi, .int .u64 y.n.a.lo, .int .i64 y.n.n, .int .i64 y.t] 40)).heap.size = w.heap.size + 2 by simp] at k
  have n2_2 : (((w.alloc (.cells #[.bool x.n.a.v6, .int .u64 x.n.a.hi, .int .u64 x.n.a.lo, .int .i64 x.n.n, .int .i64 x.t] 40)).alloc (.cells #[.bool y.n.a.v6, .int .u64 y.n.a.hi, .int .u64 y.n.a.lo, .int .i64 y.n.n, .int .i64 y.t] 40)).alloc (.cells #[.bool false, .int .u64 0, .int .u64 0, .int .i64 0, .int .i64 0] 40)).cell? ⟨w.heap.size + 2, 2, none⟩ = some (.int .u64 0) := by
    have k := cell_at ((w.alloc (.cells #[.bool x.n.a.v6, .int .u64 x.n.a.hi, .int .u64 x.n.a.lo, .int .i64 x.n.n, .int .i64 x.t] 40)).alloc (.cells #[.bool y.n.a.v6, .int .u64 y.n.a.hi, .int .u64 y.n.a.lo, .int .i64 y.n.n, .int .i64 y.t] 40)) #[.bool false, .int .u64 0, .int .u64 0, .int .i64 0, .int .i64 0] 40 2 _ rfl
    rwa [show ((w.alloc (.cells #[.bool x.n.a.v6, .int .u64 x.n.a.hi, .int .u64 x.n.a.lo, .int .i64 x.n.n, .int .i64 x.t] 40)).alloc (.cells #[.bool y.n.a.v6, .int .u64 y.n.a.hi, .int .u64 y.n.a.lo, .int .i64 y.n.n, .int .i64 y.t] 40)).heap.size = w.heap.size + 2 by simp] at k
  have n2_3 : (((w.alloc (.cells #[.bool x.n.a.v6, .int .u64 x.n.a.hi, .int .u64 x.n.a.lo, .int .i64 x.n.n, .int .i64 x.t] 40)).alloc (.cells #[.bool y.n.a.v6, .int .u64 y.n.a.hi, .int .u64 y.n.a.lo, .int .i64 y.n.n, .int .i64 y.t] 40)).alloc (.cells #[.bool false, .int .u64 0, .int .u64 0, .int .i64 0, .int .i64 0] 40)).cell? ⟨w.heap.size + 2, 3, none⟩ = some (.int .i64 0) := by
    have k := cell_at ((w.alloc (.cells #[.bool x.n.a.v6, .int .u64 x.n.a.hi, .int .u64 x.n.a.lo, .int .i64 x.n.n, .int .i64 x.t] 40)).alloc (.cells #[.bool y.n.a.v6, .int .u64 y.n.a.hi, .int .u64 y.n.a.lo, .int .i64 y.n.n, .int .i64 y.t] 40)) #[.bool false, .int .u64 0, .int .u64 0, .int .i64 0, .int .i64 0] 40 3 _ rfl
    rwa [show ((w.alloc (.cells #[.bool x.n.a.v6, .int .u64 x.n.a.hi, .int .u64 x.n.a.lo, .int .i64 x.n.n, .int .i64 x.t] 40)).alloc (.cells #[.bool y.n.a.v6, .int .u64 y.n.a.hi, .int .u64 y.n.a.lo, .int .i64 y.n.n, .int .i64 y.t] 40)).heap.size = w.heap.size + 2 by simp] at k
  have n2_4 : (((w.alloc (.cells #[.bool x.n.a.v6, .int .u64 x.n.a.hi, .int .u64 x.n.a.lo, .int .i64 x.n.n, .int .i64 x.t] 40)).alloc (.cells #[.bool y.n.a.v6, .int .u64 y.n.a.hi, .int .u64 y.n.a.lo, .int .i64 y.n.n, .int .i64 y.t] 40)).alloc (.cells #[.bool false, .int .u64 0, .int .u64 0, .int .i64 0, .int .i64 0] 40)).cell? ⟨w.heap.size + 2, 4, none⟩ = some (.int .i64 0) := by
    have k := cell_at ((w.alloc (.cells #[.bool x.n.a.v6, .int .u64 x.n.a.hi, .int .u64 x.n.a.lo, .int .i64 x.n.n, .int .i64 x.t] 40)).alloc (.cells #[.bool y.n.a.v6, .int .u64 y.n.a.hi, .int .u64 y.n.a.lo, .int .i64 y.n.n, .int .i64 y.t] 40)) #[.bool false, .int .u64 0, .int .u64 0, .int .i64 0, .int .i64 0] 40 4 _ rfl
    rwa [show ((w.alloc (.cells #[.bool x.n.a.v6, .int .u64 x.n.a.hi, .int .u64 x.n.a.lo, .int .i64 x.n.n, .int .i64 x.t] 40)).alloc (.cells #[.bool y.n.a.v6, .int .u64 y.n.a.hi, .int .u64 y.n.a.lo, .int .i64 y.n.n, .int .i64 y.t] 40)).heap.size = w.heap.size + 2 by simp] at k
  exact ⟨Ci.cells_left h (Ci.cells_left s0 n0_0), Ci.cells_left h (Ci.cells_left s0 n0_1), Ci.cells_left h (Ci.cells_left s0 n0_2), Ci.cells_left h (Ci.cells_left s0 n0_3), Ci.cells_left h (Ci.cells_left s0 n0_4), Ci.cells_left h (Ci.cells_left s1 n1_0), Ci.cells_left h (Ci.cells_left s1 n1_1), Ci.cells_left h (Ci.cells_left s1 n1_2), Ci.cells_left h (Ci.cells_left s1 n1_3), Ci.cells_left h (Ci.cells_left s1 n1_4), Ci.cells_left h n2_0, Ci.cells_left h n2_1, Ci.cells_left h n2_2, Ci.cells_left h n2_3, Ci.cells_left h n2_4, h⟩
theorem CBB.on {x y : Ban} {w w1 w2 : World} (h : CBB x y w w1) (k : Below w1.heap.size w1 w2) : CBB x y w w2 := CBB.of (low_trans h.2.2.2.2.2.2.2.2.2.2.2.2.2.2.2 k)
theorem CBB.low {x y : Ban} {w w1 : World} (h : CBB x y w w1) : Below w.heap.size w w1 := ((((Below.refl _ _).alloc (by first | (simp; done) | (simp; omega)) _).alloc (by first | (simp; done) | (simp; omega)) _).alloc (by first | (simp; done) | (simp; omega)) _).trans (h.2.2.2.2.2.2.2.2.2.2.2.2.2.2.2.mono (by simp; omega))
set_option maxHeartbeats 8000000 in
theorem textB_any (x : Ban) (w : World) (hx : x.ok) :
    Calls Tryz.prog 21 #[.agg #[.bool x.n.a.v6, .int .u64 x.n.a.hi, .int .u64 x.n.a.lo, .int .i64 x.n.n, .int .i64 x.t]] w fun e w' => e = .returned (.string ⟨(textB x).toArray⟩) ∧ Below w.heap.size w w' := by
  have K1 : Hid (∀ W, SN1 x w W → Calls Tryz.prog 19 #[.agg #[.bool x.n.a.v6, .int .u64 x.n.a.hi, .int .u64 x.n.a.lo, .int .i64 x.n.n, .int .i64 x.t]] W fun e w' => e = .returned (.bool (rightB x)) ∧ SN1 x w w') := Lib.hid fun W h => by
    have hs := h.2.2.2.2.2
    have hc : Calls Tryz.prog 19 #[.agg #[.bool x.n.a.v6, .int .u64 x.n.a.hi, .int .u64 x.n.a.lo, .int .i64 x.n.n, .int .i64 x.t]] W fun e w' => e = .returned (.bool (rightB x)) ∧ Below W.heap.size W w' := rightB_any x W hx
    exact hc.mono fun e w' ⟨he, hb⟩ => ⟨he, SN1.of (low_trans hs hb)⟩
  have K2 : Hid (∀ W, SN1 x w W → Calls Tryz.prog 41 #[.agg #[.bool x.n.a.v6, .int .u64 x.n.a.hi, .int .u64 x.n.a.lo, .int .i64 x.n.n]] W fun e w' => e = .returned (.string ⟨(textN x.n).toArray⟩) ∧ SN1 x w w') := Lib.hid fun W h => by
    have hs := h.2.2.2.2.2
    have hc : Calls Tryz.prog 41 #[.agg #[.bool x.n.a.v6, .int .u64 x.n.a.hi, .int .u64 x.n.a.lo, .int .i64 x.n.n]] W fun e w' => e = .returned (.string ⟨(textN x.n).toArray⟩) ∧ Below W.heap.size W w' := textN_any x.n W hx.1
    exact hc.mono fun e w' ⟨he, hb⟩ => ⟨he, SN1.of (low_trans hs hb)⟩
  have K3 : Hid (∀ W, SN1 x w W → Calls Tryz.prog 42 #[.int .i64 x.t] W fun e w' => e = .returned (.string ⟨(text x.t).toArray⟩) ∧ SN1 x w w') := Lib.hid fun W h => by
    have hs := h.2.2.2.2.2
    have hc : Calls Tryz.prog 42 #[.int .i64 x.t] W fun e w' => e = .returned (.string ⟨(text x.t).toArray⟩) ∧ Below W.heap.size W w' := text_any x.t W hx.2.1 hx.2.2
    exact hc.mono fun e w' ⟨he, hb⟩ => ⟨he, SN1.of (low_trans hs hb)⟩
  have hk0 : SN1 x w (w.alloc (.cells #[.bool x.n.a.v6, .int .u64 x.n.a.hi, .int .u64 x.n.a.lo, .int .i64 x.n.n, .int .i64 x.t] 40)) := SN1.of (Below.refl _ _)
  obtain ⟨c0, c1, c2, c3, c4, hs⟩ := id hk0
  cases hr : rightB x
  · have E : Hid (textB x = []) := Lib.hid (textB_no hr)
    rw [hr] at K1
    clear hr
    go_enter Tryz.func21, Tryz.ntmps21
    go_wp2_with fail
    (with_reducible refine (K1.out _ hk0).mono ?_)
    rintro e w1 ⟨rfl, hk1⟩
    clear c0 c1 c2 c3 c4 hs
    obtain ⟨c0, c1, c2, c3, c4, hs⟩ := id hk1
    go_wp2_with fail
    go_ret
    exact ⟨ret_s (a := []) E.out.symm, SN1.low hk1⟩
  · have E : Hid (glue 32 [textN x.n, word, text x.t] = textB x) := Lib.hid (by rw [textB_yes hr]; simp [glue])
    have hlen : (glue 32 [textN x.n, word, text x.t]).length ≤ 140737488355328 := by rw [E.out]; have := textB_len hx; omega
    rw [hr] at K1
    clear hr
    have K4 : Hid (∀ W : World, SN1 x w W → Calls Tryz.prog 40 #[.slice (some ⟨W.heap.size, 0, none⟩) 3 3] (W.alloc (.cells #[.string ⟨(textN x.n).toArray⟩, .string ⟨#[117, 110, 116, 105, 108]⟩, .string ⟨(text x.t).toArray⟩] 9)) fun e w' => e = .returned (.string ⟨(glue 32 [textN x.n, word, text x.t]).toArray⟩) ∧ SN1 x w w') := Lib.hid fun W h => (row_any _ [textN x.n, word, text x.t] _ (Txts.lit W [textN x.n, word, text x.t] #[.string ⟨(textN x.n).toArray⟩, .string ⟨#[117, 110, 116, 105, 108]⟩, .string ⟨(text x.t).toArray⟩] 9 rfl) (by simp) hlen).mono fun e w' ⟨he, hb⟩ => ⟨he, SN1.of (low_trans (Below.alloc h.2.2.2.2.2 h.2.2.2.2.2.size _) hb)⟩
    have JD : Hid (∀ W, SN1 x w W → SN1 x w W.drew) := Lib.hid fun W h => SN1.of (low_drewN h.2.2.2.2.2 1)
    have JA : Hid (∀ W o, SN1 x w W → SN1 x w (W.alloc o)) := Lib.hid fun W o h => SN1.of (Below.alloc h.2.2.2.2.2 h.2.2.2.2.2.size o)
    clear hlen
    go_enter Tryz.func21, Tryz.ntmps21
    go_wp2_with fail
    (with_reducible refine (K1.out _ hk0).mono ?_)
    rintro e w1 ⟨rfl, hk1⟩
    clear c0 c1 c2 c3 c4 hs
    obtain ⟨c0, c1, c2, c3, c4, hs⟩ := id hk1
    go_wp2_with fail
    go_region_with (first
        | (go_at_call 41; (with_reducible refine (K2.out _ (by (repeat (first | assumption | refine JD.out _ ?_ | refine JA.out _ _ ?_)))).mono ?_); rintro e w9 ⟨rfl, hkw⟩; obtain ⟨c0, c1, c2, c3, c4, hs⟩ := id hkw)
        | (go_at_call 42; (with_reducible refine (K3.out _ (by (repeat (first | assumption | refine JD.out _ ?_ | refine JA.out _ _ ?_)))).mono ?_); rintro e w9 ⟨rfl, hkw⟩; obtain ⟨c0, c1, c2, c3, c4, hs⟩ := id hkw)
        | (go_at_call 40; (refine (K4.out _ (by (repeat (first | assumption | refine JD.out _ ?_ | refine JA.out _ _ ?_)))).mono ?_); rintro e w9 ⟨rfl, hkw⟩; obtain ⟨c0, c1, c2, c3, c4, hs⟩ := id hkw))
    all_goals clear K1 K2 K3 K4 JD JA
    all_goals go_wp2_with fail
    all_goals go_ret
    all_goals exact ⟨ret_s E.out, ((Below.refl _ _).alloc (Nat.le_refl _) _).trans (hs.mono (by simp))⟩
end Go.Proofs.YtefkolkagebffaaGreatDoor.Ba
