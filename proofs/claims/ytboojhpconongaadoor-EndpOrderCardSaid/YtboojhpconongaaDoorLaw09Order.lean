/- The third statement of layer 9, proved: ends stand in one order; for all ends, under the row's listed variables. -/
import Derived.Test.YtboojhpconongaaDoorLaw09
namespace Go.Proofs.YtboojhpconongaaDoor
set_option maxRecDepth 100000
open Go.ChangeShapes Go.WideShapes Go.ChangeAt Go.RowKit
open Words Dec V4 V6 Ad Ci En
set_option linter.unusedVariables false
abbrev S09c (x y z : Endp) (w : World) (w' : World) : Prop := w'.cell? ⟨w.heap.size, 0, none⟩ = some (.bool x.a.v6) ∧ w'.cell? ⟨w.heap.size, 1, none⟩ = some (.int .u64 x.a.hi) ∧ w'.cell? ⟨w.heap.size, 2, none⟩ = some (.int .u64 x.a.lo) ∧ w'.cell? ⟨w.heap.size, 3, none⟩ = some (.int .i64 x.n) ∧ w'.cell? ⟨w.heap.size + 1, 0, none⟩ = some (.bool y.a.v6) ∧ w'.cell? ⟨w.heap.size + 1, 1, none⟩ = some (.int .u64 y.a.hi) ∧ w'.cell? ⟨w.heap.size + 1, 2, none⟩ = some (.int .u64 y.a.lo) ∧ w'.cell? ⟨w.heap.size + 1, 3, none⟩ = some (.int .i64 y.n) ∧ w'.cell? ⟨w.heap.size + 2, 0, none⟩ = some (.bool z.a.v6) ∧ w'.cell? ⟨w.heap.size + 2, 1, none⟩ = some (.int .u64 z.a.hi) ∧ w'.cell? ⟨w.heap.size + 2, 2, none⟩ = some (.int .u64 z.a.lo) ∧ w'.cell? ⟨w.heap.size + 2, 3, none⟩ = some (.int .i64 z.n) ∧ Stays (((w.alloc (.cells #[.bool x.a.v6, .int .u64 x.a.hi, .int .u64 x.a.lo, .int .i64 x.n] 26)).alloc (.cells #[.bool y.a.v6, .int .u64 y.a.hi, .int .u64 y.a.lo, .int .i64 y.n] 26)).alloc (.cells #[.bool z.a.v6, .int .u64 z.a.hi, .int .u64 z.a.lo, .int .i64 z.n] 26)) w'
theorem S09c.of {x y z : Endp} {w w' : World} (h : Stays (((w.alloc (.cells #[.bool x.a.v6, .int .u64 x.a.hi, .int .u64 x.a.lo, .int .i64 x.n] 26)).alloc (.cells #[.bool y.a.v6, .int .u64 y.a.hi, .int .u64 y.a.lo, .int .i64 y.n] 26)).alloc (.cells #[.bool z.a.v6, .int .u64 z.a.hi, .int .u64 z.a.lo, .int .i64 z.n] 26)) w') : S09c x y z w w' := by
  obtain ⟨n0, n1, n2, n3, m0, m1, m2, m3⟩ := two_ends w x y
  have k := cell_new4 ((w.alloc (.cells #[.bool x.a.v6, .int .u64 x.a.hi, .int .u64 x.a.lo, .int .i64 x.n] 26)).alloc (.cells #[.bool y.a.v6, .int .u64 y.a.hi, .int .u64 y.a.lo, .int .i64 y.n] 26)) (.bool z.a.v6) (.int .u64 z.a.hi) (.int .u64 z.a.lo) (.int .i64 z.n) 26
  rw [show ((w.alloc (.cells #[.bool x.a.v6, .int .u64 x.a.hi, .int .u64 x.a.lo, .int .i64 x.n] 26)).alloc (.cells #[.bool y.a.v6, .int .u64 y.a.hi, .int .u64 y.a.lo, .int .i64 y.n] 26)).heap.size = w.heap.size + 2 by simp] at k
  have s2 : Stays ((w.alloc (.cells #[.bool x.a.v6, .int .u64 x.a.hi, .int .u64 x.a.lo, .int .i64 x.n] 26)).alloc (.cells #[.bool y.a.v6, .int .u64 y.a.hi, .int .u64 y.a.lo, .int .i64 y.n] 26)) (((w.alloc (.cells #[.bool x.a.v6, .int .u64 x.a.hi, .int .u64 x.a.lo, .int .i64 x.n] 26)).alloc (.cells #[.bool y.a.v6, .int .u64 y.a.hi, .int .u64 y.a.lo, .int .i64 y.n] 26)).alloc (.cells #[.bool z.a.v6, .int .u64 z.a.hi, .int .u64 z.a.lo, .int .i64 z.n] 26)) := (Below.refl _ _).alloc (Nat.le_refl _) _
  exact ⟨Ci.cells_left h (Ci.cells_left s2 n0), Ci.cells_left h (Ci.cells_left s2 n1), Ci.cells_left h (Ci.cells_left s2 n2), Ci.cells_left h (Ci.cells_left s2 n3), Ci.cells_left h (Ci.cells_left s2 m0), Ci.cells_left h (Ci.cells_left s2 m1), Ci.cells_left h (Ci.cells_left s2 m2), Ci.cells_left h (Ci.cells_left s2 m3), Ci.cells_left h k.1, Ci.cells_left h k.2.1, Ci.cells_left h k.2.2.1, Ci.cells_left h k.2.2.2, h⟩
theorem order_sameE (a b : Endp) : ((cmpE a b == 0) == sameE a b) = true ∧ ((cmpE a b == 0) != sameE a b) = false := by
  have h := cmpE_zero a b
  rw [← sameE_iff] at h
  cases hs : sameE a b
  · have : cmpE a b ≠ 0 := fun e => by rw [h, hs] at e; cases e
    simp [this]
  · have : cmpE a b = 0 := h.2 hs
    simp [this]
set_option maxHeartbeats 8000000 in
theorem endpOrder_walk (w : World) (x : Endp) (hx : x.ok) (y : Endp) (hy : y.ok) (z : Endp) (hz : z.ok) (hL : Lens w) :
    Calls Tryd.prog 5 #[.agg #[.bool x.a.v6, .int .u64 x.a.hi, .int .u64 x.a.lo, .int .i64 x.n], .agg #[.bool y.a.v6, .int .u64 y.a.hi, .int .u64 y.a.lo, .int .i64 y.n], .agg #[.bool z.a.v6, .int .u64 z.a.hi, .int .u64 z.a.lo, .int .i64 z.n]] w fun e w' => e = .returned (.bool true) ∧ Below w.heap.size w w' := by
  have hB : Below w.heap.size w (((w.alloc (.cells #[.bool x.a.v6, .int .u64 x.a.hi, .int .u64 x.a.lo, .int .i64 x.n] 26)).alloc (.cells #[.bool y.a.v6, .int .u64 y.a.hi, .int .u64 y.a.lo, .int .i64 y.n] 26)).alloc (.cells #[.bool z.a.v6, .int .u64 z.a.hi, .int .u64 z.a.lo, .int .i64 z.n] 26)) := (two_low _ _ _).alloc (by simp; omega) _
  have hL0 := hL.below hB
  have K1 : Hid (∀ W, S09c x y z w W → Calls Tryd.prog 13 #[.agg #[.bool x.a.v6, .int .u64 x.a.hi, .int .u64 x.a.lo, .int .i64 x.n], .agg #[.bool y.a.v6, .int .u64 y.a.hi, .int .u64 y.a.lo, .int .i64 y.n]] W fun e w' => e = .returned (.int .i64 (cmpE x y)) ∧ S09c x y z w w') := Lib.hid fun W h => by
    have hs := h.2.2.2.2.2.2.2.2.2.2.2.2
    have hc : Calls Tryd.prog 13 #[.agg #[.bool x.a.v6, .int .u64 x.a.hi, .int .u64 x.a.lo, .int .i64 x.n], .agg #[.bool y.a.v6, .int .u64 y.a.hi, .int .u64 y.a.lo, .int .i64 y.n]] W fun e w' => e = .returned (.int .i64 (cmpE x y)) ∧ Below W.heap.size W w' := compareE_any x y W hx hy
    exact hc.mono fun e w' ⟨he, hb⟩ => ⟨he, S09c.of (low_trans hs hb)⟩
  have K2 : Hid (∀ W, S09c x y z w W → Calls Tryd.prog 13 #[.agg #[.bool y.a.v6, .int .u64 y.a.hi, .int .u64 y.a.lo, .int .i64 y.n], .agg #[.bool z.a.v6, .int .u64 z.a.hi, .int .u64 z.a.lo, .int .i64 z.n]] W fun e w' => e = .returned (.int .i64 (cmpE y z)) ∧ S09c x y z w w') := Lib.hid fun W h => by
    have hs := h.2.2.2.2.2.2.2.2.2.2.2.2
    have hc : Calls Tryd.prog 13 #[.agg #[.bool y.a.v6, .int .u64 y.a.hi, .int .u64 y.a.lo, .int .i64 y.n], .agg #[.bool z.a.v6, .int .u64 z.a.hi, .int .u64 z.a.lo, .int .i64 z.n]] W fun e w' => e = .returned (.int .i64 (cmpE y z)) ∧ Below W.heap.size W w' := compareE_any y z W hy hz
    exact hc.mono fun e w' ⟨he, hb⟩ => ⟨he, S09c.of (low_trans hs hb)⟩
  have K3 : Hid (∀ W, S09c x y z w W → Calls Tryd.prog 13 #[.agg #[.bool x.a.v6, .int .u64 x.a.hi, .int .u64 x.a.lo, .int .i64 x.n], .agg #[.bool z.a.v6, .int .u64 z.a.hi, .int .u64 z.a.lo, .int .i64 z.n]] W fun e w' => e = .returned (.int .i64 (cmpE x z)) ∧ S09c x y z w w') := Lib.hid fun W h => by
    have hs := h.2.2.2.2.2.2.2.2.2.2.2.2
    have hc : Calls Tryd.prog 13 #[.agg #[.bool x.a.v6, .int .u64 x.a.hi, .int .u64 x.a.lo, .int .i64 x.n], .agg #[.bool z.a.v6, .int .u64 z.a.hi, .int .u64 z.a.lo, .int .i64 z.n]] W fun e w' => e = .returned (.int .i64 (cmpE x z)) ∧ Below W.heap.size W w' := compareE_any x z W hx hz
    exact hc.mono fun e w' ⟨he, hb⟩ => ⟨he, S09c.of (low_trans hs hb)⟩
  have K4 : Hid (∀ W, S09c x y z w W → Calls Tryd.prog 14 #[.agg #[.bool x.a.v6, .int .u64 x.a.hi, .int .u64 x.a.lo, .int .i64 x.n], .agg #[.bool y.a.v6, .int .u64 y.a.hi, .int .u64 y.a.lo, .int .i64 y.n]] W fun e w' => e = .returned (.int .i64 (cmpE x y)) ∧ S09c x y z w w') := Lib.hid fun W h => by
    have hs := h.2.2.2.2.2.2.2.2.2.2.2.2
    have hc : Calls Tryd.prog 14 #[.agg #[.bool x.a.v6, .int .u64 x.a.hi, .int .u64 x.a.lo, .int .i64 x.n], .agg #[.bool y.a.v6, .int .u64 y.a.hi, .int .u64 y.a.lo, .int .i64 y.n]] W fun e w' => e = .returned (.int .i64 (cmpE x y)) ∧ Below W.heap.size W w' := rcompareE_any x y W hx hy
    exact hc.mono fun e w' ⟨he, hb⟩ => ⟨he, S09c.of (low_trans hs hb)⟩
  have K5 : Hid (∀ W, S09c x y z w W → Calls Tryd.prog 13 #[.agg #[.bool y.a.v6, .int .u64 y.a.hi, .int .u64 y.a.lo, .int .i64 y.n], .agg #[.bool x.a.v6, .int .u64 x.a.hi, .int .u64 x.a.lo, .int .i64 x.n]] W fun e w' => e = .returned (.int .i64 (cmpE y x)) ∧ S09c x y z w w') := Lib.hid fun W h => by
    have hs := h.2.2.2.2.2.2.2.2.2.2.2.2
    have hc : Calls Tryd.prog 13 #[.agg #[.bool y.a.v6, .int .u64 y.a.hi, .int .u64 y.a.lo, .int .i64 y.n], .agg #[.bool x.a.v6, .int .u64 x.a.hi, .int .u64 x.a.lo, .int .i64 x.n]] W fun e w' => e = .returned (.int .i64 (cmpE y x)) ∧ Below W.heap.size W w' := compareE_any y x W hy hx
    exact hc.mono fun e w' ⟨he, hb⟩ => ⟨he, S09c.of (low_trans hs hb)⟩
  have K6 : Hid (∀ W, S09c x y z w W → Calls Tryd.prog 6 #[] W fun e w' => e = .returned (.bool true) ∧ S09c x y z w w') := Lib.hid fun W h => by
    have hs := h.2.2.2.2.2.2.2.2.2.2.2.2
    have hc : Calls Tryd.prog 6 #[] W fun e w' => e = .returned (.bool true) ∧ Below W.heap.size W w' := awake09_any W (hL0.below hs)
    exact hc.mono fun e w' ⟨he, hb⟩ => ⟨he, S09c.of (low_trans hs hb)⟩
  have hk0 : S09c x y z w (((w.alloc (.cells #[.bool x.a.v6, .int .u64 x.a.hi, .int .u64 x.a.lo, .int .i64 x.n] 26)).alloc (.cells #[.bool y.a.v6, .int .u64 y.a.hi, .int .u64 y.a.lo, .int .i64 y.n] 26)).alloc (.cells #[.bool z.a.v6, .int .u64 z.a.hi, .int .u64 z.a.lo, .int .i64 z.n] 26)) := S09c.of (Below.refl _ _)
  have JD : Hid (∀ W, S09c x y z w W → S09c x y z w W.drew) := Lib.hid fun W h => S09c.of (low_drewN h.2.2.2.2.2.2.2.2.2.2.2.2 1)
  have EQ := fun W => eqEnd x y W
  obtain ⟨Z1, Z2⟩ := order_sameE x y
  have F1 : (cmpE x y != -cmpE y x) = false := by rw [bne_eq_false_iff_eq]; exact cmpE_flip x y
  have O1 : cmpE x y ≤ 0 → cmpE y z ≤ 0 → cmpE x z ≤ 0 := fun h1 h2 => cmpE_le h1 h2
  have O2 : 0 ≤ cmpE x y → 0 ≤ cmpE y z → 0 ≤ cmpE x z := fun h1 h2 => cmpE_ge h1 h2
  have B1 : -1 ≤ cmpE y x ∧ cmpE y x ≤ 1 := by have := cmpE_one y x; omega
  obtain ⟨c0, c1, c2, c3, c4, c5, c6, c7, c8, c9, c10, c11, hs⟩ := id hk0
  go_enter Tryd.func5, Tryd.ntmps5
  go_wp2_with fail
  go_region_held3 (fun w' => w'.cell? ⟨w.heap.size, 0, none⟩ = some (.bool x.a.v6) ∧ w'.cell? ⟨w.heap.size, 1, none⟩ = some (.int .u64 x.a.hi) ∧ w'.cell? ⟨w.heap.size, 2, none⟩ = some (.int .u64 x.a.lo) ∧ w'.cell? ⟨w.heap.size, 3, none⟩ = some (.int .i64 x.n) ∧ w'.cell? ⟨w.heap.size + 1, 0, none⟩ = some (.bool y.a.v6) ∧ w'.cell? ⟨w.heap.size + 1, 1, none⟩ = some (.int .u64 y.a.hi) ∧ w'.cell? ⟨w.heap.size + 1, 2, none⟩ = some (.int .u64 y.a.lo) ∧ w'.cell? ⟨w.heap.size + 1, 3, none⟩ = some (.int .i64 y.n) ∧ w'.cell? ⟨w.heap.size + 2, 0, none⟩ = some (.bool z.a.v6) ∧ w'.cell? ⟨w.heap.size + 2, 1, none⟩ = some (.int .u64 z.a.hi) ∧ w'.cell? ⟨w.heap.size + 2, 2, none⟩ = some (.int .u64 z.a.lo) ∧ w'.cell? ⟨w.heap.size + 2, 3, none⟩ = some (.int .i64 z.n) ∧ Stays (((w.alloc (.cells #[.bool x.a.v6, .int .u64 x.a.hi, .int .u64 x.a.lo, .int .i64 x.n] 26)).alloc (.cells #[.bool y.a.v6, .int .u64 y.a.hi, .int .u64 y.a.lo, .int .i64 y.n] 26)).alloc (.cells #[.bool z.a.v6, .int .u64 z.a.hi, .int .u64 z.a.lo, .int .i64 z.n] 26)) w')
    (first | assumption | exact JD.out _ ‹_›)
    (first
      | (go_at_call 13; (with_reducible first | refine (K1.out _ ‹_›).mono ?_ | refine (K2.out _ ‹_›).mono ?_ | refine (K3.out _ ‹_›).mono ?_); rintro e w9 ⟨rfl, hkw⟩))
  have hS9 := ‹S09c x y z w _›
  clear c0 c1 c2 c3 c4 c5 c6 c7 c8 c9 c10 c11 hs
  obtain ⟨k9_0, k9_1, k9_2, k9_3, k9_4, k9_5, k9_6, k9_7, k9_8, k9_9, k9_10, k9_11, hs9⟩ := id hS9
  go_wp2_with fail
  (with_reducible refine (K4.out _ hS9).mono ?_)
  rintro e w10 ⟨rfl, hS10⟩
  obtain ⟨q0_w10, q1_w10, q2_w10, q3_w10, q4_w10, q5_w10, q6_w10, q7_w10, q8_w10, q9_w10, q10_w10, q11_w10, hs_w10⟩ := id hS10
  go_wp2_with fail
  (with_reducible refine (K5.out _ hS10).mono ?_)
  rintro e w11 ⟨rfl, hS11⟩
  obtain ⟨q0_w11, q1_w11, q2_w11, q3_w11, q4_w11, q5_w11, q6_w11, q7_w11, q8_w11, q9_w11, q10_w11, q11_w11, hs_w11⟩ := id hS11
  go_wp2_with fail
  all_goals (with_reducible refine (K6.out _ hS11).mono ?_)
  all_goals rintro e w12 ⟨rfl, hS12⟩
  all_goals go_wp2_with fail
  all_goals go_ret
  all_goals exact ⟨rfl, hB.trans (hS12.2.2.2.2.2.2.2.2.2.2.2.2.mono hB.size)⟩
namespace endpOrder
theorem contract (H : Type) (enc : TypeId × Value → H) (W : World) (base : Nat) (args : Array Value) (ds gs : List (DataW H)) (before : List MemPlace)
    (hval0 : ∀ (j : Nat) t v, Tryd.f5.params[j]? = some t → args[j]? = some v → Value.okWide Tryd.prog W .any base t v)
    (hW : DataW.Whole enc Tryd.prog Tryd.f5.params.toList Rows.endpOrderSpec.vars false W args.toList ds gs before) (hSh : W.ShapedOpen Tryd.prog) :
    Calls Tryd.prog 5 args W fun e W' => ∃ v, e = .returned v ∧ Rows.endpOrderSpec.post enc Tryd.prog Tryd.f5 false true false false W args v W' := by
  have hval : ∀ (j : Nat) t v, Tryd.f5.params[j]? = some t → args[j]? = some v → Value.okWide Tryd.prog W .any base t v := hval0
  have hW' := hW
  obtain ⟨p, q, hA0, hV, _, _, _⟩ := hW
  have hA : DataW.TrodAll enc Tryd.prog W 0 (fun _ => true) true Tryd.f5.params.toList args.toList ds p := hA0
  rw [Tryd.params5] at hA hval
  obtain ⟨v0, vs0, d0, ds0, p0, q0, hargs, rfl, rfl, h0, r0⟩ := trodAll_cons hA
  obtain ⟨v1, vs1, d1, ds1, p1, q1, rfl, rfl, rfl, h1, r1⟩ := trodAll_cons r0
  obtain ⟨v2, vs2, d2, ds2, p2, q2, rfl, rfl, rfl, h2, r2⟩ := trodAll_cons r1
  obtain ⟨rfl, rfl, rfl⟩ := trodAll_nil r2
  obtain rfl : args = #[v0, v1, v2] := by cases args; simp_all
  obtain ⟨rfl, rfl⟩ := trodVars_none hV
  obtain ⟨a0, z0, rfl, rfl, rfl⟩ := open_end (ta := 24) (tb := 4) (tu := 22) (ti := 3) Tryd.underlying26 rfl rfl Tryd.underlying24 (by kernel_rfl) rfl rfl (by kernel_rfl) (by kernel_rfl) (by kernel_rfl) rfl rfl rfl Tryd.underlying4 Tryd.underlying22 Tryd.underlying3 (hval 0 26 v0 rfl rfl) h0
  obtain ⟨a1, z1, rfl, rfl, rfl⟩ := open_end (ta := 24) (tb := 4) (tu := 22) (ti := 3) Tryd.underlying26 rfl rfl Tryd.underlying24 (by kernel_rfl) rfl rfl (by kernel_rfl) (by kernel_rfl) (by kernel_rfl) rfl rfl rfl Tryd.underlying4 Tryd.underlying22 Tryd.underlying3 (hval 1 26 v1 rfl rfl) h1
  obtain ⟨a2, z2, rfl, rfl, rfl⟩ := open_end (ta := 24) (tb := 4) (tu := 22) (ti := 3) Tryd.underlying26 rfl rfl Tryd.underlying24 (by kernel_rfl) rfl rfl (by kernel_rfl) (by kernel_rfl) (by kernel_rfl) rfl rfl rfl Tryd.underlying4 Tryd.underlying22 Tryd.underlying3 (hval 2 26 v2 rfl rfl) h2
  clear hA0 hval0
  refine (endpOrder_walk W a0 z0 a1 z1 a2 z2 (V6.Lens.start hSh)).mono fun e W' ⟨he, hg⟩ => ?_
  subst he
  exact ⟨_, rfl, post_law laidOut (by kernel_rfl) (by kernel_rfl) Tryd.underlying4 rfl hW' rfl rfl rfl hg⟩
set_option maxRecDepth 100000 in
theorem lifted (os : Os) (started : os.Started) (H : Type) (enc : TypeId × Value → H) (F : Stop.Interp) :
    ReturnsInHanded {} Tryd.checked os 5 .any ((OpenSpec.ofChange Rows.endpOrderSpec).preRow enc Tryd.prog Tryd.f5 Rows.endpOrderRow.domain false Rows.endpOrderRow.laid) (((OpenSpec.ofChange Rows.endpOrderSpec).at F).post enc Tryd.prog Tryd.f5 false true false false) := by
  refine returnsInHanded_of_row (C := Tryd.checked) (s := OpenSpec.ofChange Rows.endpOrderSpec) own started (by kernel_rfl) Tryd.func5
    (witness_laid (enc := enc) (C := Tryd.checked) (s := OpenSpec.ofChange Rows.endpOrderSpec) (laid := Rows.endpOrderRow.laid) #[.agg #[.bool false, .int .u64 0, .int .u64 0, .int .i64 0], .agg #[.bool false, .int .u64 0, .int .u64 0, .int .i64 0], .agg #[.bool false, .int .u64 0, .int .u64 0, .int .i64 0]] (World.shaped_of_ZipB (by kernel_rfl) (by kernel_rfl)) (by kernel_rfl)
      (OpenSpec.preRow_of_cond 8 (x := ([.agg [.agg [.lit (.bool false), .lit (.int .u64 0), .lit (.int .u64 0)], .lit (.int .i64 0)], .agg [.agg [.lit (.bool false), .lit (.int .u64 0), .lit (.int .u64 0)], .lit (.int .i64 0)], .agg [.agg [.lit (.bool false), .lit (.int .u64 0), .lit (.int .u64 0)], .lit (.int .i64 0)]], [], [])) (by kernel_rfl) (by kernel_rfl) (fun k hk => by cases hk) (by kernel_rfl)
        (by rw [MakeChecks.laidMetH_plain _ _ _ (by kernel_rfl)]; exact laidMet_laidAll _ (by kernel_rfl) (by kernel_rfl)))) ?_
  intro W base args ds gs before hval hW _ hcond _ _ hsh _
  exact contract H enc W base args ds gs before hval hW hsh
theorem over : Rows.endpOrderRow.holds Tryd.pinned (OpenSpec.ofChange Rows.endpOrderSpec) :=
  OpenClaim.holds_of_cond 5 Tryd.f5 rfl rfl rfl rfl rfl rfl rfl ⟨rfl, rfl, rfl, rfl, rfl⟩ rfl rfl rfl rfl rfl (by kernel_rfl) Tryd.func5 (by kernel_rfl)
    (of_decide_eq_true (by kernel_rfl)) (by unfold Func.isWrapper; first | (rw [if_pos (by decide +kernel)]; kernel_rfl) | (rw [if_neg (by decide +kernel)]; exact ⟨rfl, rfl⟩))
    (fun os started H enc _ F => by rw [OpenClaim.pre_eq_preRow]; exact lifted os started H enc F)
/-- ████ THE STATEMENT ████ -/
theorem proved : Rows.EndpOrderCardSaid :=
  Claim7.holds_tied_plain_at .later [] Rows.endpOrderCard.laidKinds Rows.endpOrderCard.laidTests Rows.endpOrderCard.stood.harness Rows.endpOrderCard.stood.looks over (fun _ h => by cases h) (by kernel_rfl) (fun _ h => by cases h) endpOrder_row_tie rfl ⟨rfl, rfl⟩ (by kernel_rfl) rfl
    (fun f fn hf hfn => by
      obtain rfl : f = 5 := Option.some.inj ((show Tryd.prog.funcNamed Rows.endpOrderRow.func = some 5 by kernel_rfl).symm.trans hf) |>.symm
      obtain rfl : fn = Tryd.f5 := (Option.some.inj (Tryd.func5.symm.trans hfn)).symm
      exact ⟨by kernel_rfl, no_standin (by kernel_rfl)⟩)
    (by kernel_rfl)
end endpOrder
end Go.Proofs.YtboojhpconongaaDoor
