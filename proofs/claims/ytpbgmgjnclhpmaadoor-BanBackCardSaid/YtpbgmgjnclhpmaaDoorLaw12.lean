/- Of the statements of layer 12: the example. -/
import Derived.Test.YtpbgmgjnclhpmaaDoorRef12Read
import Derived.Test.YtpbgmgjnclhpmaaDoorBanRead
import Derived.Test.YtpbgmgjnclhpmaaDoorCls
import Derived.Test.YtpbgmgjnclhpmaaDoorDoor
import Derived.Test.YtpbgmgjnclhpmaaDoorAddrDoor
import Derived.Deep.RegionHeld3
namespace Go.Proofs.YtpbgmgjnclhpmaaDoor
set_option maxRecDepth 100000
open Go.ChangeShapes Go.WideShapes Go.ChangeAt Go.RowKit
open Dec Words V4 V6 Ad Ci Ba
set_option linter.unusedVariables false
abbrev S12a (w1 : World) (w' : World) : Prop := w'.cell? ⟨w1.heap.size, 0, none⟩ = some (.bool false) ∧ w'.cell? ⟨w1.heap.size, 1, none⟩ = some (.int .u64 0) ∧ w'.cell? ⟨w1.heap.size, 2, none⟩ = some (.int .u64 167772160) ∧ w'.cell? ⟨w1.heap.size, 3, none⟩ = some (.int .i64 8) ∧ w'.cell? ⟨w1.heap.size, 4, none⟩ = some (.int .i64 500) ∧ Stays (w1.alloc (.cells #[.bool false, .int .u64 0, .int .u64 167772160, .int .i64 8, .int .i64 500] 28)) w'
theorem ban_is {x : Ban} {v : Bool} {h l : Nat} {i t : Int} (h1 : x.n.a.v6 = v) (h2 : x.n.a.hi = h) (h3 : x.n.a.lo = l) (h4 : x.n.n = i) (h5 : x.t = t) : x = ⟨⟨⟨v, h, l⟩, i⟩, t⟩ := by
  obtain ⟨⟨⟨a, b, c⟩, d⟩, e⟩ := x
  simp only [] at h1 h2 h3 h4 h5
  subst h1 h2 h3 h4 h5; rfl
set_option maxHeartbeats 2000000 in
theorem awake12_any (w : World) (hL : Lens w) : Calls Tryd.prog 9 #[] w fun e w' => e = .returned (.bool true) ∧ Below w.heap.size w w' := by
  have P1 := Lib.hid (parseB_any [49, 48, 46, 48, 46, 48, 46, 48, 47, 56, 32, 117, 110, 116, 105, 108, 32, 53, 48, 48])
  unfold ParseBan at P1
  rw [show parseB [49, 48, 46, 48, 46, 48, 46, 48, 47, 56, 32, 117, 110, 116, 105, 108, 32, 53, 48, 48] = (⟨⟨⟨false, 0, 167772160⟩, 8⟩, 500⟩ : Ban) from ban_is (by decide +kernel) (by decide +kernel) (by decide +kernel) (by decide +kernel) (by decide +kernel), show okB [49, 48, 46, 48, 46, 48, 46, 48, 47, 56, 32, 117, 110, 116, 105, 108, 32, 53, 48, 48] = true from by decide +kernel] at P1
  have TX := fun W => textB_any (⟨⟨⟨false, 0, 167772160⟩, 8⟩, 500⟩ : Ban) W ⟨⟨⟨by decide, by decide⟩, by decide, by decide⟩, by decide, by decide⟩
  rw [show textB (⟨⟨⟨false, 0, 167772160⟩, 8⟩, 500⟩ : Ban) = [49, 48, 46, 48, 46, 48, 46, 48, 47, 56, 32, 117, 110, 116, 105, 108, 32, 53, 48, 48] from by decide +kernel] at TX
  have H1 := fun W => hitsB_any (⟨⟨⟨false, 0, 167772160⟩, 8⟩, 500⟩ : Ban) (⟨false, 0, 167772161⟩ : Adr) 499 W ⟨⟨⟨by decide, by decide⟩, by decide, by decide⟩, by decide, by decide⟩ ⟨by decide, by decide⟩
  rw [show hitsB (⟨⟨⟨false, 0, 167772160⟩, 8⟩, 500⟩ : Ban) (⟨false, 0, 167772161⟩ : Adr) 499 = true from by decide +kernel] at H1
  have H2 := fun W => hitsB_any (⟨⟨⟨false, 0, 167772160⟩, 8⟩, 500⟩ : Ban) (⟨false, 0, 167772161⟩ : Adr) 500 W ⟨⟨⟨by decide, by decide⟩, by decide, by decide⟩, by decide, by decide⟩ ⟨by decide, by decide⟩
  rw [show hitsB (⟨⟨⟨false, 0, 167772160⟩, 8⟩, 500⟩ : Ban) (⟨false, 0, 167772161⟩ : Adr) 500 = false from by decide +kernel] at H2
  go_enter Tryd.func9, Tryd.ntmps9
  go_wp2_with fail
  refine (P1.out _ (by decide) hL).mono ?_
  rintro e w1 ⟨rfl, hb1⟩
  have IN : ∀ w', Stays (w1.alloc (.cells #[.bool false, .int .u64 0, .int .u64 167772160, .int .i64 8, .int .i64 500] 28)) w' → S12a w1 w' := fun w' h => ⟨Ci.cells_left h (cell_new5 _ _ _ _ _ _ _).1, Ci.cells_left h (cell_new5 _ _ _ _ _ _ _).2.1, Ci.cells_left h (cell_new5 _ _ _ _ _ _ _).2.2.1, Ci.cells_left h (cell_new5 _ _ _ _ _ _ _).2.2.2.1, Ci.cells_left h (cell_new5 _ _ _ _ _ _ _).2.2.2.2, h⟩
  have K1 : Hid (∀ W, S12a w1 W → Calls Tryd.prog 7 #[.agg #[.bool false, .int .u64 0, .int .u64 167772160, .int .i64 8, .int .i64 500], .agg #[.bool false, .int .u64 0, .int .u64 167772161], .int .i64 499] W fun e w' => e = .returned (.bool true) ∧ S12a w1 w') := by
    intro W h
    have hs : Stays (w1.alloc (.cells #[.bool false, .int .u64 0, .int .u64 167772160, .int .i64 8, .int .i64 500] 28)) W := h.2.2.2.2.2
    have hc : Calls Tryd.prog 7 #[.agg #[.bool false, .int .u64 0, .int .u64 167772160, .int .i64 8, .int .i64 500], .agg #[.bool false, .int .u64 0, .int .u64 167772161], .int .i64 499] W fun e w' => e = .returned (.bool true) ∧ Below W.heap.size W w' := H1 W
    exact hc.mono fun e w' ⟨he, hb⟩ => ⟨he, IN _ (low_trans hs hb)⟩
  have K2 : Hid (∀ W, S12a w1 W → Calls Tryd.prog 7 #[.agg #[.bool false, .int .u64 0, .int .u64 167772160, .int .i64 8, .int .i64 500], .agg #[.bool false, .int .u64 0, .int .u64 167772161], .int .i64 500] W fun e w' => e = .returned (.bool false) ∧ S12a w1 w') := by
    intro W h
    have hs : Stays (w1.alloc (.cells #[.bool false, .int .u64 0, .int .u64 167772160, .int .i64 8, .int .i64 500] 28)) W := h.2.2.2.2.2
    have hc : Calls Tryd.prog 7 #[.agg #[.bool false, .int .u64 0, .int .u64 167772160, .int .i64 8, .int .i64 500], .agg #[.bool false, .int .u64 0, .int .u64 167772161], .int .i64 500] W fun e w' => e = .returned (.bool false) ∧ Below W.heap.size W w' := H2 W
    exact hc.mono fun e w' ⟨he, hb⟩ => ⟨he, IN _ (low_trans hs hb)⟩
  have K3 : Hid (∀ W, S12a w1 W → Calls Tryd.prog 5 #[.agg #[.bool false, .int .u64 0, .int .u64 167772160, .int .i64 8, .int .i64 500]] W fun e w' => e = .returned (.string ⟨#[49, 48, 46, 48, 46, 48, 46, 48, 47, 56, 32, 117, 110, 116, 105, 108, 32, 53, 48, 48]⟩) ∧ S12a w1 w') := by
    intro W h
    have hs : Stays (w1.alloc (.cells #[.bool false, .int .u64 0, .int .u64 167772160, .int .i64 8, .int .i64 500] 28)) W := h.2.2.2.2.2
    have hc : Calls Tryd.prog 5 #[.agg #[.bool false, .int .u64 0, .int .u64 167772160, .int .i64 8, .int .i64 500]] W fun e w' => e = .returned (.string ⟨#[49, 48, 46, 48, 46, 48, 46, 48, 47, 56, 32, 117, 110, 116, 105, 108, 32, 53, 48, 48]⟩) ∧ Below W.heap.size W w' := TX W
    exact hc.mono fun e w' ⟨he, hb⟩ => ⟨he, IN _ (low_trans hs hb)⟩
  have hk0 : S12a w1 (w1.alloc (.cells #[.bool false, .int .u64 0, .int .u64 167772160, .int .i64 8, .int .i64 500] 28)) := IN _ (Below.refl _ _)
  obtain ⟨a0, a1, a2, a3, a4, hsx⟩ := id hk0
  go_wp2_with fail
  (with_reducible refine (K1.out _ hk0).mono ?_)
  rintro e w3 ⟨rfl, hk3⟩
  obtain ⟨q0_w3, q1_w3, q2_w3, q3_w3, q4_w3, hs_w3⟩ := id hk3
  go_wp2_with fail
  (with_reducible refine (K2.out _ hk3).mono ?_)
  rintro e w4 ⟨rfl, hk4⟩
  obtain ⟨r0_w4, r1_w4, r2_w4, r3_w4, r4_w4, hs_w4⟩ := id hk4
  go_wp2_with fail
  (with_reducible refine (K3.out _ hk4).mono ?_)
  rintro e w5 ⟨rfl, hk5⟩
  obtain ⟨t0_w5, t1_w5, t2_w5, t3_w5, t4_w5, hs_w5⟩ := id hk5
  go_wp2_with fail
  go_ret
  exact ⟨rfl, hb1.trans ((low_trans (Below.alloc (Below.refl _ _) (Nat.le_refl _) (.cells #[.bool false, .int .u64 0, .int .u64 167772160, .int .i64 8, .int .i64 500] 28)) hk5.2.2.2.2.2).mono hb1.size)⟩
end Go.Proofs.YtpbgmgjnclhpmaaDoor
