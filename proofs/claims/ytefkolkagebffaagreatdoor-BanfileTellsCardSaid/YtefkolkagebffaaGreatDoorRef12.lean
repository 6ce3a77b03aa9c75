/- Contracts of the document's answers for layer 12 (one ban). -/
import Derived.Test.YtefkolkagebffaaGreatDoorBanDoor
import Derived.Test.YtefkolkagebffaaGreatDoorRef11All
namespace Go.Proofs.YtefkolkagebffaaGreatDoor.Ba
set_option maxRecDepth 100000
open Go.ChangeShapes Go.WideShapes Go.ChangeAt Go.RowKit
open Dec Words V4 V6 Ad Ci
set_option linter.unusedVariables false
abbrev SBA (x : Ban) (a : Adr) (w : World) (w' : World) : Prop := w'.cell? ⟨w.heap.size, 0, none⟩ = some (.bool x.n.a.v6) ∧ w'.cell? ⟨w.heap.size, 1, none⟩ = some (.int .u64 x.n.a.hi) ∧ w'.cell? ⟨w.heap.size, 2, none⟩ = some (.int .u64 x.n.a.lo) ∧ w'.cell? ⟨w.heap.size, 3, none⟩ = some (.int .i64 x.n.n) ∧ w'.cell? ⟨w.heap.size, 4, none⟩ = some (.int .i64 x.t) ∧ w'.cell? ⟨w.heap.size + 1, 0, none⟩ = some (.bool a.v6) ∧ w'.cell? ⟨w.heap.size + 1, 1, none⟩ = some (.int .u64 a.hi) ∧ w'.cell? ⟨w.heap.size + 1, 2, none⟩ = some (.int .u64 a.lo) ∧ Stays ((w.alloc (.cells #[.bool x.n.a.v6, .int .u64 x.n.a.hi, .int .u64 x.n.a.lo, .int .i64 x.n.n, .int .i64 x.t] 40)).alloc (.cells #[.bool a.v6, .int .u64 a.hi, .int .u64 a.lo] 36)) w'
theorem SBA.of {x : Ban} {a : Adr} {w w' : World} (h : Stays ((w.alloc (.cells #[.bool x.n.a.v6, .int .u64 x.n.a.hi, .int .u64 x.n.a.lo, .int .i64 x.n.n, .int .i64 x.t] 40)).alloc (.cells #[.bool a.v6, .int .u64 a.hi, .int .u64 a.lo] 36)) w') : SBA x a w w' := by
  have s0 : Stays (w.alloc (.cells #[.bool x.n.a.v6, .int .u64 x.n.a.hi, .int .u64 x.n.a.lo, .int .i64 x.n.n, .int .i64 x.t] 40)) ((w.alloc (.cells #[.bool x.n.a.v6, .int .u64 x.n.a.hi, .int .u64 x.n.a.lo, .int .i64 x.n.n, .int .i64 x.t] 40)).alloc (.cells #[.bool a.v6, .int .u64 a.hi, .int .u64 a.lo] 36)) := ((Below.refl _ _).alloc (by first | (simp; done) | (simp; omega)) _)
  have n0_0 : (w.alloc (.cells #[.bool x.n.a.v6, .int .u64 x.n.a.hi, .int .u64 x.n.a.lo, .int .i64 x.n.n, .int .i64 x.t] 40)).cell? ⟨w.heap.size, 0, none⟩ = some (.bool x.n.a.v6) := by
    have k := cell_at (w) #[.bool x.n.a.v6, .int .u64 x.n.a.hi, .int .u64 x.n.a.lo, .int .i64 x.n.n, .int .i64 x.t] 40 0 _ rfl
    exact k
  have n0_1 : (w.alloc (.cells #[.bool x.n.a.v6, .int .u64 x.n.a.hi, .int .u64 x.n.a.lo, .int .i64 x.n.n, .int .i64 x.t] 40)).cell? ⟨w.heap.size, 1, none⟩ = some (.int .u64 x.n.a.hi) := by
    have k := cell_at (w) #[.bool x.n.a.v6, .int .u64 x.n.a.hi, .int .u64 x.n.a.lo, .int .i64 x.n.n, .int .i64 x.t] 40 1 _ rfl
    exact k
  have n0_2 : (w.alloc (.cells #[.bool x.n.a.v6, .int .u64 x.n.a.hi, .int .u64 x.n.a.lo, .int .i64 x.n.n, .int .i64 x.t] 40)).cell? ⟨w.heap.size, 2, none⟩ = some (.int .u64 x.n.a.lo) := by
    have k := cell_at (w) #[.bool x.n.a.v6, .int .u64 x.n.a.hi, .int .u64 x.n.a.lo, .int .i64 x.n.n, .int .i64 x.t] 40 2 _ rfl
    exact k
  have n0_3 : (w.alloc (.cells #[.bool x.n.a.v6, .int .u64 x.n.a.hi, .int .u64 x.n.a.lo, .int .i64 x.n.n, .int .i64 x.t] 40)).cell? ⟨w.heap.size, 3, none⟩ = some (.int .i64 x.n.n) := by
    have k := cell_at (w) #[.bool x.n.a.v6, .int .u64 x.n.a.hi, .int .u64 x.n.a.lo, .int .i64 x.n.n, .int .i64 x.t] 40 3 _ rfl
    exact k
  have n0_4 : (w.alloc (.cells #[.bool x.n.a.v6, .int .u64 x.n.a.hi, .int .u64 x.n.a.lo, .int .i64 x.n.n, .int .i64 x.t] 40)).cell? ⟨w.heap.size, 4, none⟩ = some (.int .i64 x.t) := by
    have k := cell_at (w) #[.bool x.n.a.v6, .int .u64 x.n.a.hi, .int .u64 x.n.a.lo, .int .i64 x.n.n, .int .i64 x.t] 40 4 _ rfl
    exact k
  have n1_0 : ((w.alloc (.cells #[.bool x.n.a.v6, .int .u64 x.n.a.hi, .int .u64 x.n.a.lo, .int .i64 x.n.n, .int .i64 x.t] 40)).alloc (.cells #[.bool a.v6, .int .u64 a.hi, .int .u64 a.lo] 36)).cell? ⟨w.heap.size + 1, 0, none⟩ = some (.bool a.v6) := by
    have k := cell_at (w.alloc (.cells #[.bool x.n.a.v6, .int .u64 x.n.a.hi, .int .u64 x.n.a.lo, .int .i64 x.n.n, .int .i64 x.t] 40)) #[.bool a.v6, .int .u64 a.hi, .int .u64 a.lo] 36 0 _ rfl
    rwa [show (w.alloc (.cells #[.bool x.n.a.v6, .int .u64 x.n.a.hi, .int .u64 x.n.a.lo, .int .i64 x.n.n, .int .i64 x.t] 40)).heap.size = w.heap.size + 1 by simp] at k
  have n1_1 : ((w.alloc (.cells #[.bool x.n.a.v6, .int .u64 x.n.a.hi, .int .u64 x.n.a.lo, .int .i64 x.n.n, .int .i64 x.t] 40)).alloc (.cells #[.bool a.v6, .int .u64 a.hi, .int .u64 a.lo] 36)).cell? ⟨w.heap.size + 1, 1, none⟩ = some (.int .u64 a.hi) := by
    have k := cell_at (w.alloc (.cells #[.bool x.n.a.v6, .int .u64 x.n.a.hi, .int .u64 x.n.a.lo, .int .i64 x.n.n, .int .i64 x.t] 40)) #[.bool a.v6, .int .u64 a.hi, .int .u64 a.lo] 36 1 _ rfl
    rwa [show (w.alloc (.cells #[.bool x.n.a.v6, .int .u64 x.n.a.hi, .int .u64 x.n.a.lo, .int .i64 x.n.n, .int .i64 x.t] 40)).heap.size = w.heap.size + 1 by simp] at k
  have n1_2 : ((w.alloc (.cells #[.bool x.n.a.v6, .int .u64 x.n.a.hi, .int .u64 x.n.a.lo, .int .i64 x.n.n, .int .i64 x.t] 40)).alloc (.cells #[.bool a.v6, .int .u64 a.hi, .int .u64 a.lo] 36)).cell? ⟨w.heap.size + 1, 2, none⟩ = some (.int .u64 a.lo) := by
    have k := cell_at (w.alloc (.cells #[.bool x.n.a.v6, .int .u64 x.n.a.hi, .int .u64 x.n.a.lo, .int .i64 x.n.n, .int .i64 x.t] 40)) #[.bool a.v6, .int .u64 a.hi, .int .u64 a.lo] 36 2 _ rfl
    rwa [show (w.alloc (.cells #[.bool x.n.a.v6, .int .u64 x.n.a.hi, .int .u64 x.n.a.lo, .int .i64 x.n.n, .int .i64 x.t] 40)).heap.size = w.heap.size + 1 by simp] at k
  exact ⟨Ci.cells_left h (Ci.cells_left s0 n0_0), Ci.cells_left h (Ci.cells_left s0 n0_1), Ci.cells_left h (Ci.cells_left s0 n0_2), Ci.cells_left h (Ci.cells_left s0 n0_3), Ci.cells_left h (Ci.cells_left s0 n0_4), Ci.cells_left h n1_0, Ci.cells_left h n1_1, Ci.cells_left h n1_2, h⟩
theorem SBA.on {x : Ban} {a : Adr} {w w1 w2 : World} (h : SBA x a w w1) (k : Below w1.heap.size w1 w2) : SBA x a w w2 := SBA.of (low_trans h.2.2.2.2.2.2.2.2 k)
theorem SBA.low {x : Ban} {a : Adr} {w w1 : World} (h : SBA x a w w1) : Below w.heap.size w w1 := (((Below.refl _ _).alloc (by first | (simp; done) | (simp; omega)) _).alloc (by first | (simp; done) | (simp; omega)) _).trans (h.2.2.2.2.2.2.2.2.mono (by simp; omega))
set_option maxHeartbeats 2000000 in
theorem rrightB_any (x : Ban) (w : World) (hx : x.ok) :
    Calls Tryz.prog 24 #[.agg #[.bool x.n.a.v6, .int .u64 x.n.a.hi, .int .u64 x.n.a.lo, .int .i64 x.n.n, .int .i64 x.t]] w fun e w' => e = .returned (.bool (rightB x)) ∧ Below w.heap.size w w' := by
  have K1 : Hid (∀ W, SN1 x w W → Calls Tryz.prog 43 #[.agg #[.bool x.n.a.v6, .int .u64 x.n.a.hi, .int .u64 x.n.a.lo, .int .i64 x.n.n]] W fun e w' => e = .returned (.bool (rightN x.n)) ∧ SN1 x w w') := Lib.hid fun W h => by
    have hs := h.2.2.2.2.2
    have hc : Calls Tryz.prog 43 #[.agg #[.bool x.n.a.v6, .int .u64 x.n.a.hi, .int .u64 x.n.a.lo, .int .i64 x.n.n]] W fun e w' => e = .returned (.bool (rightN x.n)) ∧ Below W.heap.size W w' := rrightN_any x.n W hx.1
    exact hc.mono fun e w' ⟨he, hb⟩ => ⟨he, SN1.of (low_trans hs hb)⟩
  have hk0 : SN1 x w (w.alloc (.cells #[.bool x.n.a.v6, .int .u64 x.n.a.hi, .int .u64 x.n.a.lo, .int .i64 x.n.n, .int .i64 x.t] 40)) := SN1.of (Below.refl _ _)
  obtain ⟨c0, c1, c2, c3, c4, hs⟩ := id hk0
  have E : Hid (rightB x = (rightN x.n && (decide (0 < x.t) && decide (x.t ≤ 1099511627776)))) := Lib.hid rfl
  cases hr : rightN x.n
  · rw [hr] at K1 E
    clear hr
    go_enter Tryz.func24, Tryz.ntmps24
    go_wp2_with fail
    (with_reducible refine (K1.out _ hk0).mono ?_)
    rintro e w1 ⟨rfl, hk1⟩
    clear c0 c1 c2 c3 c4 hs
    obtain ⟨c0, c1, c2, c3, c4, hs⟩ := id hk1
    go_wp2_with fail
    go_ret
    exact ⟨ret_b (by rw [E.out]; rfl), SN1.low hk1⟩
  · rw [hr] at K1 E
    clear hr
    by_cases h1 : 0 < x.t
    · have p1 : 1 ≤ x.t := by omega
      by_cases h2 : x.t ≤ 1099511627776
      · have p2 : x.t < 1099511627777 := by omega
        go_enter Tryz.func24, Tryz.ntmps24
        go_wp2_with fail
        (with_reducible refine (K1.out _ hk0).mono ?_)
        rintro e w1 ⟨rfl, hk1⟩
        clear c0 c1 c2 c3 c4 hs
        obtain ⟨c0, c1, c2, c3, c4, hs⟩ := id hk1
        go_wp2_with fail
        go_ret
        exact ⟨ret_b (by rw [E.out, Bool.eq_iff_iff]; first | (simp; done) | (simp; omega)), SN1.low hk1⟩
      · have p2 : ¬ x.t < 1099511627777 := by omega
        go_enter Tryz.func24, Tryz.ntmps24
        go_wp2_with fail
        (with_reducible refine (K1.out _ hk0).mono ?_)
        rintro e w1 ⟨rfl, hk1⟩
        clear c0 c1 c2 c3 c4 hs
        obtain ⟨c0, c1, c2, c3, c4, hs⟩ := id hk1
        go_wp2_with fail
        go_ret
        exact ⟨ret_b (by rw [E.out, Bool.eq_iff_iff]; first | (simp; done) | (simp; omega)), SN1.low hk1⟩
    · have p1 : ¬ 1 ≤ x.t := by omega
      go_enter Tryz.func24, Tryz.ntmps24
      go_wp2_with fail
      (with_reducible refine (K1.out _ hk0).mono ?_)
      rintro e w1 ⟨rfl, hk1⟩
      clear c0 c1 c2 c3 c4 hs
      obtain ⟨c0, c1, c2, c3, c4, hs⟩ := id hk1
      go_wp2_with fail
      go_ret
      exact ⟨ret_b (by rw [E.out, Bool.eq_iff_iff]; first | (simp; done) | (simp; omega)), SN1.low hk1⟩
set_option maxHeartbeats 8000000 in
theorem rtextB_any (x : Ban) (w : World) (hx : x.ok) :
    Calls Tryz.prog 25 #[.agg #[.bool x.n.a.v6, .int .u64 x.n.a.hi, .int .u64 x.n.a.lo, .int .i64 x.n.n, .int .i64 x.t]] w fun e w' => e = .returned (.string ⟨(textB x).toArray⟩) ∧ Below w.heap.size w w' := by
  have K1 : Hid (∀ W, SN1 x w W → Calls Tryz.prog 24 #[.agg #[.bool x.n.a.v6, .int .u64 x.n.a.hi, .int .u64 x.n.a.lo, .int .i64 x.n.n, .int .i64 x.t]] W fun e w' => e = .returned (.bool (rightB x)) ∧ SN1 x w w') := Lib.hid fun W h => by
    have hs := h.2.2.2.2.2
    have hc : Calls Tryz.prog 24 #[.agg #[.bool x.n.a.v6, .int .u64 x.n.a.hi, .int .u64 x.n.a.lo, .int .i64 x.n.n, .int .i64 x.t]] W fun e w' => e = .returned (.bool (rightB x)) ∧ Below W.heap.size W w' := rrightB_any x W hx
    exact hc.mono fun e w' ⟨he, hb⟩ => ⟨he, SN1.of (low_trans hs hb)⟩
  have K2 : Hid (∀ W, SN1 x w W → Calls Tryz.prog 44 #[.agg #[.bool x.n.a.v6, .int .u64 x.n.a.hi, .int .u64 x.n.a.lo, .int .i64 x.n.n]] W fun e w' => e = .returned (.string ⟨(textN x.n).toArray⟩) ∧ SN1 x w w') := Lib.hid fun W h => by
    have hs := h.2.2.2.2.2
    have hc : Calls Tryz.prog 44 #[.agg #[.bool x.n.a.v6, .int .u64 x.n.a.hi, .int .u64 x.n.a.lo, .int .i64 x.n.n]] W fun e w' => e = .returned (.string ⟨(textN x.n).toArray⟩) ∧ Below W.heap.size W w' := rtextN_any x.n W hx.1
    exact hc.mono fun e w' ⟨he, hb⟩ => ⟨he, SN1.of (low_trans hs hb)⟩
  have K3 : Hid (∀ W, SN1 x w W → Calls Tryz.prog 45 #[.int .i64 x.t] W fun e w' => e = .returned (.string ⟨(text x.t).toArray⟩) ∧ SN1 x w w') := Lib.hid fun W h => by
    have hs := h.2.2.2.2.2
    have hc : Calls Tryz.prog 45 #[.int .i64 x.t] W fun e w' => e = .returned (.string ⟨(text x.t).toArray⟩) ∧ Below W.heap.size W w' := rtext_any x.t W hx.2.1 hx.2.2
    exact hc.mono fun e w' ⟨he, hb⟩ => ⟨he, SN1.of (low_trans hs hb)⟩
  have tl1 := textN_len hx.1
  have tl2 := text_len x.t hx.2.1 hx.2.2
  have hk0 : SN1 x w (w.alloc (.cells #[.bool x.n.a.v6, .int .u64 x.n.a.hi, .int .u64 x.n.a.lo, .int .i64 x.n.n, .int .i64 x.t] 40)) := SN1.of (Below.refl _ _)
  obtain ⟨c0, c1, c2, c3, c4, hs⟩ := id hk0
  cases hr : rightB x
  · have E : Hid (textB x = []) := Lib.hid (textB_no hr)
    rw [hr] at K1
    clear hr
    go_enter Tryz.func25, Tryz.ntmps25
    go_wp2_with fail
    (with_reducible refine (K1.out _ hk0).mono ?_)
    rintro e w1 ⟨rfl, hk1⟩
    clear c0 c1 c2 c3 c4 hs
    obtain ⟨c0, c1, c2, c3, c4, hs⟩ := id hk1
    go_wp2_with fail
    go_ret
    exact ⟨ret_s (a := []) E.out.symm, SN1.low hk1⟩
  · have E : Hid (textB x = textN x.n ++ 32 :: 117 :: 110 :: 116 :: 105 :: 108 :: 32 :: text x.t) := Lib.hid (textB_yes hr)
    rw [hr] at K1
    clear hr
    generalize textN x.n = T at *
    generalize text x.t = D at *
    have g3 := fun W => En.add_is (a := T) (b := [32, 117, 110, 116, 105, 108, 32]) (c := T ++ [32, 117, 110, 116, 105, 108, 32]) (by simp) (by simp; omega) W
    have g4 := fun W => En.add_is (a := T ++ [32, 117, 110, 116, 105, 108, 32]) (b := D) (c := (T ++ 32 :: 117 :: 110 :: 116 :: 105 :: 108 :: 32 :: D)) (by simp) (by simp; omega) W
    clear tl1 tl2
    go_enter Tryz.func25, Tryz.ntmps25
    go_wp2_with fail
    (with_reducible refine (K1.out _ hk0).mono ?_)
    rintro e w1 ⟨rfl, hk1⟩
    clear c0 c1 c2 c3 c4 hs
    obtain ⟨c0, c1, c2, c3, c4, hs⟩ := id hk1
    clear c0 c1 c2 c3 c4 hs
    go_wp2_with fail
    have hne : Nonempty (Cls (SN1 x w)) := ⟨⟨_, hk1⟩⟩
    have f0 : ∀ q : Cls (SN1 x w), q.w.cell? ⟨w.heap.size, 0, none⟩ = some (.bool x.n.a.v6) := fun q => q.h.1
    have f1 : ∀ q : Cls (SN1 x w), q.w.cell? ⟨w.heap.size, 1, none⟩ = some (.int .u64 x.n.a.hi) := fun q => q.h.2.1
    have f2 : ∀ q : Cls (SN1 x w), q.w.cell? ⟨w.heap.size, 2, none⟩ = some (.int .u64 x.n.a.lo) := fun q => q.h.2.2.1
    have f3 : ∀ q : Cls (SN1 x w), q.w.cell? ⟨w.heap.size, 3, none⟩ = some (.int .i64 x.n.n) := fun q => q.h.2.2.2.1
    have f4 : ∀ q : Cls (SN1 x w), q.w.cell? ⟨w.heap.size, 4, none⟩ = some (.int .i64 x.t) := fun q => q.h.2.2.2.2.1
    refine Cls.region (SN1 x w) (by kernel_rfl) (by kernel_rfl) (SN1.of (low_drewN hk1.2.2.2.2.2 1)) ?_
    repeat (go_big_quiet_step (first | (with_reducible exact Cls.call (K2.out _ (Cls.h _))) | (with_reducible exact Cls.call (K3.out _ (Cls.h _)))))
    refine wpQuiet_nil ?_
    intro n9
    have hk4 := n9.h
    generalize n9.w = w4 at hk4 ⊢
    clear hne n9 f0 f1 f2 f3 f4
    go_wp2_with fail
    go_ret
    exact ⟨ret_s E.out.symm, SN1.low hk4⟩
end Go.Proofs.YtefkolkagebffaaGreatDoor.Ba
