/- The third statement of layer 6, proved: addresses stand in one order; for all addresses, under the row's listed variables. -/
import Derived.Test.YtokbifndhkijiaaDoorLaw06
namespace Go.Proofs.YtokbifndhkijiaaDoor
set_option maxRecDepth 100000
open Go.ChangeShapes Go.WideShapes Go.ChangeAt Go.RowKit
open Words Dec V4 V6 Ad
set_option linter.unusedVariables false
abbrev S06c (a b c : Adr) (w : World) (w' : World) : Prop := w'.cell? ⟨w.heap.size, 0, none⟩ = some (.bool a.v6) ∧ w'.cell? ⟨w.heap.size, 1, none⟩ = some (.int .u64 a.hi) ∧ w'.cell? ⟨w.heap.size, 2, none⟩ = some (.int .u64 a.lo) ∧ w'.cell? ⟨w.heap.size + 1, 0, none⟩ = some (.bool b.v6) ∧ w'.cell? ⟨w.heap.size + 1, 1, none⟩ = some (.int .u64 b.hi) ∧ w'.cell? ⟨w.heap.size + 1, 2, none⟩ = some (.int .u64 b.lo) ∧ w'.cell? ⟨w.heap.size + 2, 0, none⟩ = some (.bool c.v6) ∧ w'.cell? ⟨w.heap.size + 2, 1, none⟩ = some (.int .u64 c.hi) ∧ w'.cell? ⟨w.heap.size + 2, 2, none⟩ = some (.int .u64 c.lo) ∧ Stays (((w.alloc (.cells #[.bool a.v6, .int .u64 a.hi, .int .u64 a.lo] 24)).alloc (.cells #[.bool b.v6, .int .u64 b.hi, .int .u64 b.lo] 24)).alloc (.cells #[.bool c.v6, .int .u64 c.hi, .int .u64 c.lo] 24)) w'
theorem three_new (w : World) (a b c : Adr) (t : TypeId) (w' : World) (h : w' = ((w.alloc (.cells #[.bool a.v6, .int .u64 a.hi, .int .u64 a.lo] t)).alloc (.cells #[.bool b.v6, .int .u64 b.hi, .int .u64 b.lo] t)).alloc (.cells #[.bool c.v6, .int .u64 c.hi, .int .u64 c.lo] t)) :
    (w'.cell? ⟨w.heap.size, 0, none⟩ = some (.bool a.v6) ∧ w'.cell? ⟨w.heap.size, 1, none⟩ = some (.int .u64 a.hi) ∧ w'.cell? ⟨w.heap.size, 2, none⟩ = some (.int .u64 a.lo)) ∧
    (w'.cell? ⟨w.heap.size + 1, 0, none⟩ = some (.bool b.v6) ∧ w'.cell? ⟨w.heap.size + 1, 1, none⟩ = some (.int .u64 b.hi) ∧ w'.cell? ⟨w.heap.size + 1, 2, none⟩ = some (.int .u64 b.lo)) ∧
    (w'.cell? ⟨w.heap.size + 2, 0, none⟩ = some (.bool c.v6) ∧ w'.cell? ⟨w.heap.size + 2, 1, none⟩ = some (.int .u64 c.hi) ∧ w'.cell? ⟨w.heap.size + 2, 2, none⟩ = some (.int .u64 c.lo)) := by
  subst h
  have n1 := cell_new w (.bool a.v6) (.int .u64 a.hi) (.int .u64 a.lo) t
  have n2 := cell_new (w.alloc (.cells #[.bool a.v6, .int .u64 a.hi, .int .u64 a.lo] t)) (.bool b.v6) (.int .u64 b.hi) (.int .u64 b.lo) t
  have n3 := cell_new ((w.alloc (.cells #[.bool a.v6, .int .u64 a.hi, .int .u64 a.lo] t)).alloc (.cells #[.bool b.v6, .int .u64 b.hi, .int .u64 b.lo] t)) (.bool c.v6) (.int .u64 c.hi) (.int .u64 c.lo) t
  have s2 : Stays ((w.alloc (.cells #[.bool a.v6, .int .u64 a.hi, .int .u64 a.lo] t)).alloc (.cells #[.bool b.v6, .int .u64 b.hi, .int .u64 b.lo] t)) (((w.alloc (.cells #[.bool a.v6, .int .u64 a.hi, .int .u64 a.lo] t)).alloc (.cells #[.bool b.v6, .int .u64 b.hi, .int .u64 b.lo] t)).alloc (.cells #[.bool c.v6, .int .u64 c.hi, .int .u64 c.lo] t)) := (Below.refl _ _).alloc (Nat.le_refl _) _
  have s1 : Stays (w.alloc (.cells #[.bool a.v6, .int .u64 a.hi, .int .u64 a.lo] t)) (((w.alloc (.cells #[.bool a.v6, .int .u64 a.hi, .int .u64 a.lo] t)).alloc (.cells #[.bool b.v6, .int .u64 b.hi, .int .u64 b.lo] t)).alloc (.cells #[.bool c.v6, .int .u64 c.hi, .int .u64 c.lo] t)) := low_trans ((Below.refl _ _).alloc (Nat.le_refl _) _) s2
  have e1 : (w.alloc (.cells #[.bool a.v6, .int .u64 a.hi, .int .u64 a.lo] t)).heap.size = w.heap.size + 1 := by simp
  have e2 : ((w.alloc (.cells #[.bool a.v6, .int .u64 a.hi, .int .u64 a.lo] t)).alloc (.cells #[.bool b.v6, .int .u64 b.hi, .int .u64 b.lo] t)).heap.size = w.heap.size + 2 := by simp
  rw [e1] at n2
  rw [e2] at n3
  exact ⟨⟨cells_left s1 n1.1, cells_left s1 n1.2.1, cells_left s1 n1.2.2⟩, ⟨cells_left s2 n2.1, cells_left s2 n2.2.1, cells_left s2 n2.2.2⟩, n3⟩
theorem order_same (a b : Adr) : ((cmpA a b == 0) == sameA a b) = true ∧ ((cmpA a b == 0) != sameA a b) = false := by
  have h := cmp_zero a b
  rw [← sameA_iff] at h
  cases hs : sameA a b
  · have : cmpA a b ≠ 0 := fun e => by rw [h, hs] at e; cases e
    simp [this]
  · have : cmpA a b = 0 := h.2 hs
    simp [this]
set_option maxHeartbeats 8000000 in
theorem addrOrder_walk (w : World) (a : Adr) (ha : a.ok) (b : Adr) (hb : b.ok) (c : Adr) (hc : c.ok) (hL : Lens w) :
    Calls Tryd.prog 5 #[.agg #[.bool a.v6, .int .u64 a.hi, .int .u64 a.lo], .agg #[.bool b.v6, .int .u64 b.hi, .int .u64 b.lo], .agg #[.bool c.v6, .int .u64 c.hi, .int .u64 c.lo]] w fun e w' => e = .returned (.bool true) ∧ Below w.heap.size w w' := by
  have hB : Below w.heap.size w (((w.alloc (.cells #[.bool a.v6, .int .u64 a.hi, .int .u64 a.lo] 24)).alloc (.cells #[.bool b.v6, .int .u64 b.hi, .int .u64 b.lo] 24)).alloc (.cells #[.bool c.v6, .int .u64 c.hi, .int .u64 c.lo] 24)) := (two_low _ _ _).alloc (by simp; omega) _
  have hL0 := hL.below hB
  have TN := three_new w a b c 24 _ rfl
  have IN : ∀ w', Stays (((w.alloc (.cells #[.bool a.v6, .int .u64 a.hi, .int .u64 a.lo] 24)).alloc (.cells #[.bool b.v6, .int .u64 b.hi, .int .u64 b.lo] 24)).alloc (.cells #[.bool c.v6, .int .u64 c.hi, .int .u64 c.lo] 24)) w' → S06c a b c w w' := fun w' h => ⟨cells_left h TN.1.1, cells_left h TN.1.2.1, cells_left h TN.1.2.2, cells_left h TN.2.1.1, cells_left h TN.2.1.2.1, cells_left h TN.2.1.2.2, cells_left h TN.2.2.1, cells_left h TN.2.2.2.1, cells_left h TN.2.2.2.2, h⟩
  have K1 : Hid (∀ W, S06c a b c w W → Calls Tryd.prog 19 #[.agg #[.bool a.v6, .int .u64 a.hi, .int .u64 a.lo], .agg #[.bool b.v6, .int .u64 b.hi, .int .u64 b.lo]] W fun e w' => e = .returned (.int .i64 (cmpA a b)) ∧ S06c a b c w w') := by
    intro W h
    have hs : Stays (((w.alloc (.cells #[.bool a.v6, .int .u64 a.hi, .int .u64 a.lo] 24)).alloc (.cells #[.bool b.v6, .int .u64 b.hi, .int .u64 b.lo] 24)).alloc (.cells #[.bool c.v6, .int .u64 c.hi, .int .u64 c.lo] 24)) W := h.2.2.2.2.2.2.2.2.2
    have hc : Calls Tryd.prog 19 #[.agg #[.bool a.v6, .int .u64 a.hi, .int .u64 a.lo], .agg #[.bool b.v6, .int .u64 b.hi, .int .u64 b.lo]] W fun e w' => e = .returned (.int .i64 (cmpA a b)) ∧ Below W.heap.size W w' := compare_any a b W ha hb
    exact hc.mono fun e w' ⟨he, hb⟩ => ⟨he, IN _ (low_trans hs hb)⟩
  have K2 : Hid (∀ W, S06c a b c w W → Calls Tryd.prog 19 #[.agg #[.bool b.v6, .int .u64 b.hi, .int .u64 b.lo], .agg #[.bool c.v6, .int .u64 c.hi, .int .u64 c.lo]] W fun e w' => e = .returned (.int .i64 (cmpA b c)) ∧ S06c a b c w w') := by
    intro W h
    have hs : Stays (((w.alloc (.cells #[.bool a.v6, .int .u64 a.hi, .int .u64 a.lo] 24)).alloc (.cells #[.bool b.v6, .int .u64 b.hi, .int .u64 b.lo] 24)).alloc (.cells #[.bool c.v6, .int .u64 c.hi, .int .u64 c.lo] 24)) W := h.2.2.2.2.2.2.2.2.2
    have hc : Calls Tryd.prog 19 #[.agg #[.bool b.v6, .int .u64 b.hi, .int .u64 b.lo], .agg #[.bool c.v6, .int .u64 c.hi, .int .u64 c.lo]] W fun e w' => e = .returned (.int .i64 (cmpA b c)) ∧ Below W.heap.size W w' := compare_any b c W hb hc
    exact hc.mono fun e w' ⟨he, hb⟩ => ⟨he, IN _ (low_trans hs hb)⟩
  have K3 : Hid (∀ W, S06c a b c w W → Calls Tryd.prog 19 #[.agg #[.bool a.v6, .int .u64 a.hi, .int .u64 a.lo], .agg #[.bool c.v6, .int .u64 c.hi, .int .u64 c.lo]] W fun e w' => e = .returned (.int .i64 (cmpA a c)) ∧ S06c a b c w w') := by
    intro W h
    have hs : Stays (((w.alloc (.cells #[.bool a.v6, .int .u64 a.hi, .int .u64 a.lo] 24)).alloc (.cells #[.bool b.v6, .int .u64 b.hi, .int .u64 b.lo] 24)).alloc (.cells #[.bool c.v6, .int .u64 c.hi, .int .u64 c.lo] 24)) W := h.2.2.2.2.2.2.2.2.2
    have hc : Calls Tryd.prog 19 #[.agg #[.bool a.v6, .int .u64 a.hi, .int .u64 a.lo], .agg #[.bool c.v6, .int .u64 c.hi, .int .u64 c.lo]] W fun e w' => e = .returned (.int .i64 (cmpA a c)) ∧ Below W.heap.size W w' := compare_any a c W ha hc
    exact hc.mono fun e w' ⟨he, hb⟩ => ⟨he, IN _ (low_trans hs hb)⟩
  have K4 : Hid (∀ W, S06c a b c w W → Calls Tryd.prog 20 #[.agg #[.bool a.v6, .int .u64 a.hi, .int .u64 a.lo], .agg #[.bool b.v6, .int .u64 b.hi, .int .u64 b.lo]] W fun e w' => e = .returned (.int .i64 (cmpA a b)) ∧ S06c a b c w w') := by
    intro W h
    have hs : Stays (((w.alloc (.cells #[.bool a.v6, .int .u64 a.hi, .int .u64 a.lo] 24)).alloc (.cells #[.bool b.v6, .int .u64 b.hi, .int .u64 b.lo] 24)).alloc (.cells #[.bool c.v6, .int .u64 c.hi, .int .u64 c.lo] 24)) W := h.2.2.2.2.2.2.2.2.2
    have hc : Calls Tryd.prog 20 #[.agg #[.bool a.v6, .int .u64 a.hi, .int .u64 a.lo], .agg #[.bool b.v6, .int .u64 b.hi, .int .u64 b.lo]] W fun e w' => e = .returned (.int .i64 (cmpA a b)) ∧ Below W.heap.size W w' := rcompare_any a b W ha hb
    exact hc.mono fun e w' ⟨he, hb⟩ => ⟨he, IN _ (low_trans hs hb)⟩
  have K5 : Hid (∀ W, S06c a b c w W → Calls Tryd.prog 19 #[.agg #[.bool b.v6, .int .u64 b.hi, .int .u64 b.lo], .agg #[.bool a.v6, .int .u64 a.hi, .int .u64 a.lo]] W fun e w' => e = .returned (.int .i64 (cmpA b a)) ∧ S06c a b c w w') := by
    intro W h
    have hs : Stays (((w.alloc (.cells #[.bool a.v6, .int .u64 a.hi, .int .u64 a.lo] 24)).alloc (.cells #[.bool b.v6, .int .u64 b.hi, .int .u64 b.lo] 24)).alloc (.cells #[.bool c.v6, .int .u64 c.hi, .int .u64 c.lo] 24)) W := h.2.2.2.2.2.2.2.2.2
    have hc : Calls Tryd.prog 19 #[.agg #[.bool b.v6, .int .u64 b.hi, .int .u64 b.lo], .agg #[.bool a.v6, .int .u64 a.hi, .int .u64 a.lo]] W fun e w' => e = .returned (.int .i64 (cmpA b a)) ∧ Below W.heap.size W w' := compare_any b a W hb ha
    exact hc.mono fun e w' ⟨he, hb⟩ => ⟨he, IN _ (low_trans hs hb)⟩
  have K6 : Hid (∀ W, S06c a b c w W → Calls Tryd.prog 6 #[] W fun e w' => e = .returned (.bool true) ∧ S06c a b c w w') := by
    intro W h
    have hs : Stays (((w.alloc (.cells #[.bool a.v6, .int .u64 a.hi, .int .u64 a.lo] 24)).alloc (.cells #[.bool b.v6, .int .u64 b.hi, .int .u64 b.lo] 24)).alloc (.cells #[.bool c.v6, .int .u64 c.hi, .int .u64 c.lo] 24)) W := h.2.2.2.2.2.2.2.2.2
    have hc : Calls Tryd.prog 6 #[] W fun e w' => e = .returned (.bool true) ∧ Below W.heap.size W w' := awake06_any W (hL0.below hs)
    exact hc.mono fun e w' ⟨he, hb⟩ => ⟨he, IN _ (low_trans hs hb)⟩
  have hk0 : S06c a b c w (((w.alloc (.cells #[.bool a.v6, .int .u64 a.hi, .int .u64 a.lo] 24)).alloc (.cells #[.bool b.v6, .int .u64 b.hi, .int .u64 b.lo] 24)).alloc (.cells #[.bool c.v6, .int .u64 c.hi, .int .u64 c.lo] 24)) := IN _ (Below.refl _ _)
  have EQ := fun W => eqAdr a b W
  obtain ⟨Z1, Z2⟩ := order_same a b
  have F1 : (cmpA a b != -cmpA b a) = false := by rw [bne_eq_false_iff_eq]; exact cmp_flip a b
  have O1 : cmpA a b ≤ 0 → cmpA b c ≤ 0 → cmpA a c ≤ 0 := fun h1 h2 => cmp_le h1 h2
  have O2 : 0 ≤ cmpA a b → 0 ≤ cmpA b c → 0 ≤ cmpA a c := fun h1 h2 => cmp_ge h1 h2
  have B1 : -1 ≤ cmpA b a ∧ cmpA b a ≤ 1 := by have := cmp_one b a; omega
  have IN := Lib.hid IN
  have TN := Lib.hid TN
  go_enter Tryd.func5, Tryd.ntmps5
  go_wp2_with fail
  have IN := IN.out
  go_region_held3 (fun w' => w'.cell? ⟨w.heap.size, 0, none⟩ = some (.bool a.v6) ∧ w'.cell? ⟨w.heap.size, 1, none⟩ = some (.int .u64 a.hi) ∧ w'.cell? ⟨w.heap.size, 2, none⟩ = some (.int .u64 a.lo) ∧ w'.cell? ⟨w.heap.size + 1, 0, none⟩ = some (.bool b.v6) ∧ w'.cell? ⟨w.heap.size + 1, 1, none⟩ = some (.int .u64 b.hi) ∧ w'.cell? ⟨w.heap.size + 1, 2, none⟩ = some (.int .u64 b.lo) ∧ w'.cell? ⟨w.heap.size + 2, 0, none⟩ = some (.bool c.v6) ∧ w'.cell? ⟨w.heap.size + 2, 1, none⟩ = some (.int .u64 c.hi) ∧ w'.cell? ⟨w.heap.size + 2, 2, none⟩ = some (.int .u64 c.lo) ∧ Stays (((w.alloc (.cells #[.bool a.v6, .int .u64 a.hi, .int .u64 a.lo] 24)).alloc (.cells #[.bool b.v6, .int .u64 b.hi, .int .u64 b.lo] 24)).alloc (.cells #[.bool c.v6, .int .u64 c.hi, .int .u64 c.lo] 24)) w')
    (first | assumption | exact IN _ (low_drewN (‹S06c a b c w _›).2.2.2.2.2.2.2.2.2 1))
    (first
      | (go_at_call 19; (with_reducible refine (K1.out _ ‹_›).mono ?_); rintro e w9 ⟨rfl, hkw⟩)
      | (go_at_call 19; (with_reducible refine (K2.out _ ‹_›).mono ?_); rintro e w9 ⟨rfl, hkw⟩)
      | (go_at_call 19; (with_reducible refine (K3.out _ ‹_›).mono ?_); rintro e w9 ⟨rfl, hkw⟩))
  have hS9 := ‹S06c a b c w _›
  obtain ⟨k9_0, k9_1, k9_2, k9_3, k9_4, k9_5, k9_6, k9_7, k9_8, hs9⟩ := id hS9
  go_wp2_with fail
  (with_reducible refine (K4.out _ hS9).mono ?_)
  rintro e w10 ⟨rfl, hS10⟩
  obtain ⟨k10_0, k10_1, k10_2, k10_3, k10_4, k10_5, k10_6, k10_7, k10_8, hs10⟩ := id hS10
  go_wp2_with fail
  (with_reducible refine (K5.out _ hS10).mono ?_)
  rintro e w11 ⟨rfl, hS11⟩
  obtain ⟨k11_0, k11_1, k11_2, k11_3, k11_4, k11_5, k11_6, k11_7, k11_8, hs11⟩ := id hS11
  go_wp2_with fail
  all_goals (with_reducible refine (K6.out _ hS11).mono ?_)
  all_goals rintro e w12 ⟨rfl, hS12⟩
  all_goals go_wp2_with fail
  all_goals go_ret
  all_goals exact ⟨rfl, hB.trans (hS12.2.2.2.2.2.2.2.2.2.mono hB.size)⟩
namespace addrOrder
theorem contract (H : Type) (enc : TypeId × Value → H) (W : World) (base : Nat) (args : Array Value) (ds gs : List (DataW H)) (before : List MemPlace)
    (hval0 : ∀ (j : Nat) t v, Tryd.f5.params[j]? = some t → args[j]? = some v → Value.okWide Tryd.prog W .any base t v)
    (hW : DataW.Whole enc Tryd.prog Tryd.f5.params.toList Rows.addrOrderSpec.vars false W args.toList ds gs before) (hSh : W.ShapedOpen Tryd.prog) :
    Calls Tryd.prog 5 args W fun e W' => ∃ v, e = .returned v ∧ Rows.addrOrderSpec.post enc Tryd.prog Tryd.f5 false true false false W args v W' := by
  have hval : ∀ (j : Nat) t v, Tryd.f5.params[j]? = some t → args[j]? = some v → Value.okWide Tryd.prog W .any base t v := hval0
  have hW' := hW
  obtain ⟨p, q, hA0, hV, _, _, _⟩ := hW
  have hA : DataW.TrodAll enc Tryd.prog W 0 (fun _ => true) true Tryd.f5.params.toList args.toList ds p := hA0
  rw [Tryd.params5] at hA hval
  obtain ⟨v0, vs0, d0, ds0, p0, q0, hargs, rfl, rfl, h0, r0⟩ := trodAll_cons hA
  obtain ⟨v1, vs1, d1, ds1, p1, q1, rfl, rfl, rfl, h1, r1⟩ := trodAll_cons r0
  obtain ⟨v2, vs2, d2, ds2, p2, q2, rfl, rfl, rfl, h2, r2⟩ := trodAll_cons r1
  obtain ⟨rfl, rfl, rfl⟩ := trodAll_nil r2
  obtain rfl : args = #[v0, v1, v2] := by cases args; simp_all
  obtain ⟨rfl, rfl⟩ := trodVars_none hV
  obtain ⟨a0, z0, rfl, rfl, rfl⟩ := open_adr (tb := 4) (ti := 22) Tryd.underlying24 (by kernel_rfl) (by kernel_rfl) rfl rfl rfl Tryd.underlying4 Tryd.underlying22 (hval 0 24 v0 rfl rfl) h0
  obtain ⟨a1, z1, rfl, rfl, rfl⟩ := open_adr (tb := 4) (ti := 22) Tryd.underlying24 (by kernel_rfl) (by kernel_rfl) rfl rfl rfl Tryd.underlying4 Tryd.underlying22 (hval 1 24 v1 rfl rfl) h1
  obtain ⟨a2, z2, rfl, rfl, rfl⟩ := open_adr (tb := 4) (ti := 22) Tryd.underlying24 (by kernel_rfl) (by kernel_rfl) rfl rfl rfl Tryd.underlying4 Tryd.underlying22 (hval 2 24 v2 rfl rfl) h2
  clear hA0 hval0
  refine (addrOrder_walk W a0 z0 a1 z1 a2 z2 (V6.Lens.start hSh)).mono fun e W' ⟨he, hg⟩ => ?_
  subst he
  exact ⟨_, rfl, post_law laidOut (by kernel_rfl) (by kernel_rfl) Tryd.underlying4 rfl hW' rfl rfl rfl hg⟩
set_option maxRecDepth 100000 in
theorem lifted (os : Os) (started : os.Started) (H : Type) (enc : TypeId × Value → H) (F : Stop.Interp) :
    ReturnsInHanded {} Tryd.checked os 5 .any ((OpenSpec.ofChange Rows.addrOrderSpec).preRow enc Tryd.prog Tryd.f5 Rows.addrOrderRow.domain false Rows.addrOrderRow.laid) (((OpenSpec.ofChange Rows.addrOrderSpec).at F).post enc Tryd.prog Tryd.f5 false true false false) := by
  refine returnsInHanded_of_row (C := Tryd.checked) (s := OpenSpec.ofChange Rows.addrOrderSpec) own started (by kernel_rfl) Tryd.func5
    (witness_laid (enc := enc) (C := Tryd.checked) (s := OpenSpec.ofChange Rows.addrOrderSpec) (laid := Rows.addrOrderRow.laid) #[.agg #[.bool false, .int .u64 0, .int .u64 0], .agg #[.bool false, .int .u64 0, .int .u64 0], .agg #[.bool false, .int .u64 0, .int .u64 0]] (World.shaped_of_ZipB (by kernel_rfl) (by kernel_rfl)) (by kernel_rfl)
      (OpenSpec.preRow_of_cond 8 (x := ([.agg [.lit (.bool false), .lit (.int .u64 0), .lit (.int .u64 0)], .agg [.lit (.bool false), .lit (.int .u64 0), .lit (.int .u64 0)], .agg [.lit (.bool false), .lit (.int .u64 0), .lit (.int .u64 0)]], [], [])) (by kernel_rfl) (by kernel_rfl) (fun k hk => by cases hk) (by kernel_rfl)
        (by rw [MakeChecks.laidMetH_plain _ _ _ (by kernel_rfl)]; exact laidMet_laidAll _ (by kernel_rfl) (by kernel_rfl)))) ?_
  intro W base args ds gs before hval hW _ hcond _ _ hsh _
  exact contract H enc W base args ds gs before hval hW hsh
theorem over : Rows.addrOrderRow.holds Tryd.pinned (OpenSpec.ofChange Rows.addrOrderSpec) :=
  OpenClaim.holds_of_cond 5 Tryd.f5 rfl rfl rfl rfl rfl rfl rfl ⟨rfl, rfl, rfl, rfl, rfl⟩ rfl rfl rfl rfl rfl (by kernel_rfl) Tryd.func5 (by kernel_rfl)
    (of_decide_eq_true (by kernel_rfl)) (by unfold Func.isWrapper; first | (rw [if_pos (by decide +kernel)]; kernel_rfl) | (rw [if_neg (by decide +kernel)]; exact ⟨rfl, rfl⟩))
    (fun os started H enc _ F => by rw [OpenClaim.pre_eq_preRow]; exact lifted os started H enc F)
/-- ████ THE STATEMENT ████ -/
theorem proved : Rows.AddrOrderCardSaid :=
  Claim7.holds_tied_plain_at .later [] Rows.addrOrderCard.laidKinds Rows.addrOrderCard.laidTests Rows.addrOrderCard.stood.harness Rows.addrOrderCard.stood.looks over (fun _ h => by cases h) (by kernel_rfl) (fun _ h => by cases h) addrOrder_row_tie rfl ⟨rfl, rfl⟩ (by kernel_rfl) rfl
    (fun f fn hf hfn => by
      obtain rfl : f = 5 := Option.some.inj ((show Tryd.prog.funcNamed Rows.addrOrderRow.func = some 5 by kernel_rfl).symm.trans hf) |>.symm
      obtain rfl : fn = Tryd.f5 := (Option.some.inj (Tryd.func5.symm.trans hfn)).symm
      exact ⟨by kernel_rfl, no_standin (by kernel_rfl)⟩)
    (by kernel_rfl)
end addrOrder
end Go.Proofs.YtokbifndhkijiaaDoor
