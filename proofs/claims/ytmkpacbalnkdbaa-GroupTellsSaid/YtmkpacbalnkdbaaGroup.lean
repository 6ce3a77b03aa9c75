/- Contracts of package group. -/
import Derived.Test.YtmkpacbalnkdbaaCidrText
import Derived.Test.YtmkpacbalnkdbaaGroupMath
namespace Go.Proofs.Ytmkpacbalnkdbaa.Gr
set_option maxRecDepth 100000
open Go.ChangeShapes Go.WideShapes Go.ChangeAt Go.RowKit
open Dec Words V4 V6 Ad Ci
set_option linter.unusedVariables false
theorem size_any (a : Adr) (w : World) :
    Calls Try.prog 18 #[.agg #[.bool a.v6, .int .u64 a.hi, .int .u64 a.lo]] w fun e w' => e = .returned (.int .i64 (sizeG a : Nat)) ∧ Below w.heap.size w w' := by
  obtain ⟨v, hi, lo⟩ := a
  cases v
  · have E : Hid (((sizeG ⟨false, hi, lo⟩ : Nat) : Int) = 16) := Lib.hid rfl
    go_enter Try.func18, Try.ntmps18
    go_wp2_with fail
    go_ret
    exact ⟨ret_i E.out.symm, (Below.refl _ _).alloc (Nat.le_refl _) _⟩
  · have E : Hid (((sizeG ⟨true, hi, lo⟩ : Nat) : Int) = 32) := Lib.hid rfl
    go_enter Try.func18, Try.ntmps18
    go_wp2_with fail
    go_ret
    exact ⟨ret_i E.out.symm, (Below.refl _ _).alloc (Nat.le_refl _) _⟩
set_option maxHeartbeats 4000000 in
theorem groupOf_any (a : Adr) (w : World) (ha : a.ok) :
    Calls Try.prog 8 #[.agg #[.bool a.v6, .int .u64 a.hi, .int .u64 a.lo]] w fun e w' => e = .returned (.agg #[.bool (groupN a).a.v6, .int .u64 (groupN a).a.hi, .int .u64 (groupN a).a.lo, .int .i64 (groupN a).n]) ∧ Below w.heap.size w w' := by
  have hb := size_le a
  have MK := Lib.hid (fun W => make_any a (sizeG a : Int) W ha (by omega) (by omega))
  have BI := Lib.hid (fun W => size_any a W)
  have c0 : ∀ w', Stays ((w.alloc (.cells #[.bool a.v6, .int .u64 a.hi, .int .u64 a.lo] 24)).alloc (.cells #[.bool false, .int .u64 0, .int .u64 0, .int .i64 0] 28)) w' → SF a w w' := fun w' h => ⟨cells_left h (by simp [go_sem]), cells_left h (by simp [go_sem]), cells_left h (by simp [go_sem]), cells_left h (by simp [go_sem]), cells_left h (by simp [go_sem]), cells_left h (by simp [go_sem]), cells_left h (by simp [go_sem]), frozen_left h (by simp) (by simp [go_sem]), frozen_left h (by simp) (by simp [go_sem]), frozen_left h (by simp) (by simp [go_sem]), frozen_left h (by simp) (by simp [go_sem]), h⟩
  have IN := Lib.hid c0
  have K1 : Hid (∀ W, SF a w W → Calls Try.prog 18 #[.agg #[.bool a.v6, .int .u64 a.hi, .int .u64 a.lo]] W fun e w' => e = .returned (.int .i64 (sizeG a : Nat)) ∧ SF a w w' ∧ Below W.heap.size W w') := Lib.hid fun W h => (BI.out W).mono fun e w' ⟨he, hb⟩ => ⟨he, IN.out _ (low_trans h.2.2.2.2.2.2.2.2.2.2.2 hb), hb⟩
  have K2 : Hid (∀ W, SF a w W → Calls Try.prog 17 #[.agg #[.bool a.v6, .int .u64 a.hi, .int .u64 a.lo], .int .i64 (sizeG a : Nat)] W fun e w' => e = .returned (.tuple #[.agg #[.bool (makeN a (sizeG a : Int)).a.v6, .int .u64 (makeN a (sizeG a : Int)).a.hi, .int .u64 (makeN a (sizeG a : Int)).a.lo, .int .i64 (makeN a (sizeG a : Int)).n], .bool (makeB a (sizeG a : Int))]) ∧ SF a w w' ∧ Below W.heap.size W w') := Lib.hid fun W h => (MK.out W).mono fun e w' ⟨he, hb⟩ => ⟨he, IN.out _ (low_trans h.2.2.2.2.2.2.2.2.2.2.2 hb), hb⟩
  have E : Hid (groupN a = makeN a (sizeG a : Int)) := Lib.hid rfl
  rw [E.out]
  have hk0 : SF a w ((w.alloc (.cells #[.bool a.v6, .int .u64 a.hi, .int .u64 a.lo] 24)).alloc (.cells #[.bool false, .int .u64 0, .int .u64 0, .int .i64 0] 28)) := c0 _ (Below.refl _ _)
  clear c0 hb
  go_enter Try.func8, Try.ntmps8
  go_wp2_with fail
  go_region_held3 (fun w' => w'.cell? ⟨w.heap.size, 0, none⟩ = some (.bool a.v6) ∧ w'.cell? ⟨w.heap.size, 1, none⟩ = some (.int .u64 a.hi) ∧ w'.cell? ⟨w.heap.size, 2, none⟩ = some (.int .u64 a.lo) ∧ w'.cell? ⟨w.heap.size + 1, 0, none⟩ = some (.bool false) ∧ w'.cell? ⟨w.heap.size + 1, 1, none⟩ = some (.int .u64 0) ∧ w'.cell? ⟨w.heap.size + 1, 2, none⟩ = some (.int .u64 0) ∧ w'.cell? ⟨w.heap.size + 1, 3, none⟩ = some (.int .i64 0) ∧ w'.frozen? ⟨w.heap.size + 1, 0, none⟩ = false ∧ w'.frozen? ⟨w.heap.size + 1, 1, none⟩ = false ∧ w'.frozen? ⟨w.heap.size + 1, 2, none⟩ = false ∧ w'.frozen? ⟨w.heap.size + 1, 3, none⟩ = false ∧ Stays ((w.alloc (.cells #[.bool a.v6, .int .u64 a.hi, .int .u64 a.lo] 24)).alloc (.cells #[.bool false, .int .u64 0, .int .u64 0, .int .i64 0] 28)) w')
    (first
      | assumption
      | (refine IN.out _ ?_; repeat (first | exact Below.refl _ _ | exact Lib.Hid.out ‹_› | exact (‹SF a w _›).2.2.2.2.2.2.2.2.2.2.2 | refine low_drew ?_ | refine Below.alloc ?_ (by first | (simp; done) | (simp; omega)) _ | refine Below.setCell ?_ (by first | (simp; done) | (simp; omega)) _)))
    (first
      | (go_at_call 18; (with_reducible refine (K1.out _ ‹_›).mono ?_); rintro e wb ⟨rfl, hkw, hbw⟩; have hst := Lib.hid hkw.2.2.2.2.2.2.2.2.2.2.2; obtain ⟨z0, z1, z2, z3, z4, z5⟩ := sizes (show w.heap.size + 2 ≤ wb.heap.size by have := hkw.2.2.2.2.2.2.2.2.2.2.2.size; simpa using this); (try (have z6 : w.heap.size + 2 < wb.heap.size := by have := hbw.size; simp at this; omega)); obtain ⟨hcb, hfb⟩ := old hbw)
      | (go_at_call 17; (with_reducible refine (K2.out _ ‹_›).mono ?_); rintro e wm ⟨rfl, hkw, hbw⟩; have hst := Lib.hid hkw.2.2.2.2.2.2.2.2.2.2.2; obtain ⟨z0, z1, z2, z3, z4, z5⟩ := sizes (show w.heap.size + 2 ≤ wm.heap.size by have := hkw.2.2.2.2.2.2.2.2.2.2.2.size; simpa using this); (try (have z6 : w.heap.size + 2 < wm.heap.size := by have := hbw.size; simp at this; omega)); obtain ⟨hcm, hfm⟩ := old hbw))
  all_goals clear MK BI IN K1 K2
  all_goals (first
    | refine swap (P := fun w5 => Exit.then _ _ _ _ w5) (R := fun w5 => SF a w w5 ∧ OF (makeN a (sizeG a : Int)) wm.heap.size w5) ⟨by with_reducible assumption, by with_reducible exact own_new⟩ ?_
    | refine swap (P := fun w5 => Exit.then _ _ _ _ w5) (R := fun w5 => SF a w w5 ∧ OF (makeN a (sizeG a : Int)) wb.heap.size w5) ⟨by with_reducible assumption, by (with_reducible refine own_set ?_ ?_ ?_ ?_) <;> (rw [hcm _ _ (by simp)]; simp [go_sem])⟩ ?_
    | refine swap (P := fun w5 => Exit.then _ _ _ _ w5) (R := fun w5 => SF a w w5 ∧ OF (makeN a (sizeG a : Int)) (w.heap.size + 1 + 1) w5) ⟨by with_reducible assumption, by (with_reducible refine own_set ?_ ?_ ?_ ?_) <;> (rw [hcm _ _ (by omega), hcb _ _ (by simp)]; simp [go_sem])⟩ ?_)
  all_goals rintro w5 ⟨⟨k0, k1, k2, k3, k4, k5, k6, f0, f1, f2, f3, hs9⟩, o0, o1, o2, o3⟩
  all_goals try clear hcm hfm
  all_goals try clear hcb hfb
  all_goals go_wp2_with fail
  all_goals exact bodyPost_ret (v := .agg #[.bool (makeN a (sizeG a : Int)).a.v6, .int .u64 (makeN a (sizeG a : Int)).a.hi, .int .u64 (makeN a (sizeG a : Int)).a.lo, .int .i64 (makeN a (sizeG a : Int)).n]) (by simp [results, Try.results8, go_sem, k3, k4, k5, k6]) rfl ⟨rfl, (((((two_low _ _ _).trans (hs9.mono (by simp; omega))).setCell (by simp) _).setCell (by simp) _).setCell (by simp) _).setCell (by simp) _⟩
abbrev SAB (a b : Adr) (w : World) (w' : World) : Prop := w'.cell? ⟨w.heap.size, 0, none⟩ = some (.bool a.v6) ∧ w'.cell? ⟨w.heap.size, 1, none⟩ = some (.int .u64 a.hi) ∧ w'.cell? ⟨w.heap.size, 2, none⟩ = some (.int .u64 a.lo) ∧ w'.cell? ⟨w.heap.size + 1, 0, none⟩ = some (.bool b.v6) ∧ w'.cell? ⟨w.heap.size + 1, 1, none⟩ = some (.int .u64 b.hi) ∧ w'.cell? ⟨w.heap.size + 1, 2, none⟩ = some (.int .u64 b.lo) ∧ Stays ((w.alloc (.cells #[.bool a.v6, .int .u64 a.hi, .int .u64 a.lo] 24)).alloc (.cells #[.bool b.v6, .int .u64 b.hi, .int .u64 b.lo] 24)) w'
theorem SAB.of {a b : Adr} {w w' : World} (h : Stays ((w.alloc (.cells #[.bool a.v6, .int .u64 a.hi, .int .u64 a.lo] 24)).alloc (.cells #[.bool b.v6, .int .u64 b.hi, .int .u64 b.lo] 24)) w') : SAB a b w w' :=
  ⟨Ci.cells_left h (by simp [go_sem]), Ci.cells_left h (by simp [go_sem]), Ci.cells_left h (by simp [go_sem]), Ci.cells_left h (by simp [go_sem]), Ci.cells_left h (by simp [go_sem]), Ci.cells_left h (by simp [go_sem]), h⟩
theorem SAB.on {a b : Adr} {w w1 w2 : World} (h : SAB a b w w1) (k : Below w1.heap.size w1 w2) : SAB a b w w2 := SAB.of (low_trans h.2.2.2.2.2.2 k)
theorem SAB.low {a b : Adr} {w w1 : World} (h : SAB a b w w1) : Below w.heap.size w w1 := (two_low _ _ _).trans (h.2.2.2.2.2.2.mono (by simp; omega))
set_option maxHeartbeats 4000000 in
theorem sameG_any (a b : Adr) (w : World) (ha : a.ok) (hb : b.ok) :
    Calls Try.prog 9 #[.agg #[.bool a.v6, .int .u64 a.hi, .int .u64 a.lo], .agg #[.bool b.v6, .int .u64 b.hi, .int .u64 b.lo]] w fun e w' => e = .returned (.bool (sameG a b)) ∧ Below w.heap.size w w' := by
  have K1 : Hid (∀ W, SAB a b w W → Calls Try.prog 19 #[.agg #[.bool a.v6, .int .u64 a.hi, .int .u64 a.lo]] W fun e w' => e = .returned (.bool (rightA a)) ∧ SAB a b w w') := Lib.hid fun W h => (right_any a W ha).mono fun e w' ⟨he, hb⟩ => ⟨he, h.on hb⟩
  have K2 : Hid (∀ W, SAB a b w W → Calls Try.prog 8 #[.agg #[.bool a.v6, .int .u64 a.hi, .int .u64 a.lo]] W fun e w' => e = .returned (.agg #[.bool (groupN a).a.v6, .int .u64 (groupN a).a.hi, .int .u64 (groupN a).a.lo, .int .i64 (groupN a).n]) ∧ SAB a b w w') := Lib.hid fun W h => (groupOf_any a W ha).mono fun e w' ⟨he, hb⟩ => ⟨he, h.on hb⟩
  have K3 : Hid (∀ W, SAB a b w W → Calls Try.prog 8 #[.agg #[.bool b.v6, .int .u64 b.hi, .int .u64 b.lo]] W fun e w' => e = .returned (.agg #[.bool (groupN b).a.v6, .int .u64 (groupN b).a.hi, .int .u64 (groupN b).a.lo, .int .i64 (groupN b).n]) ∧ SAB a b w w') := Lib.hid fun W h => (groupOf_any b W hb).mono fun e w' ⟨he, hb⟩ => ⟨he, h.on hb⟩
  have JD : Hid (∀ W, SAB a b w W → SAB a b w W.drew) := Lib.hid fun W h => SAB.of (low_drewN h.2.2.2.2.2.2 1)
  have hk0 : SAB a b w ((w.alloc (.cells #[.bool a.v6, .int .u64 a.hi, .int .u64 a.lo] 24)).alloc (.cells #[.bool b.v6, .int .u64 b.hi, .int .u64 b.lo] 24)) := SAB.of (Below.refl _ _)
  have EQ := fun W => eqNet (groupN a) (groupN b) W
  obtain ⟨c0, c1, c2, c3, c4, c5, hs⟩ := id hk0
  cases hr : rightA a
  · have E : Hid (sameG a b = false) := Lib.hid (sameG_noA hr)
    rw [hr] at K1
    clear hr
    go_enter Try.func9, Try.ntmps9
    go_wp2_with fail
    first
      | (go_region_with (first
        | (go_at_call 19; (with_reducible refine (K1.out _ (by (repeat (first | assumption | refine JD.out _ ?_)))).mono ?_); rintro e w9 ⟨rfl, hkw⟩; obtain ⟨c0, c1, c2, c3, c4, c5, hs⟩ := id hkw)))
      | fail
    all_goals clear K1 K2 K3 JD
    all_goals go_wp2_with fail
    all_goals go_ret
    all_goals exact ⟨ret_b E.out.symm, SAB.low (‹SAB a b w _›)⟩
  · have E : Hid (sameG a b = sameN (groupN a) (groupN b)) := Lib.hid (sameG_is hr)
    rw [hr] at K1
    clear hr
    go_enter Try.func9, Try.ntmps9
    go_wp2_with fail
    go_region_held3 (fun w' => w'.cell? ⟨w.heap.size, 0, none⟩ = some (.bool a.v6) ∧ w'.cell? ⟨w.heap.size, 1, none⟩ = some (.int .u64 a.hi) ∧ w'.cell? ⟨w.heap.size, 2, none⟩ = some (.int .u64 a.lo) ∧ w'.cell? ⟨w.heap.size + 1, 0, none⟩ = some (.bool b.v6) ∧ w'.cell? ⟨w.heap.size + 1, 1, none⟩ = some (.int .u64 b.hi) ∧ w'.cell? ⟨w.heap.size + 1, 2, none⟩ = some (.int .u64 b.lo) ∧ Stays ((w.alloc (.cells #[.bool a.v6, .int .u64 a.hi, .int .u64 a.lo] 24)).alloc (.cells #[.bool b.v6, .int .u64 b.hi, .int .u64 b.lo] 24)) w')
      (first | assumption | exact JD.out _ ‹_›)
      (first
        | (go_at_call 19; (with_reducible refine (K1.out _ ‹_›).mono ?_); rintro e w9 ⟨rfl, hkw⟩)
        | (go_at_call 8; (with_reducible first | refine (K2.out _ ‹_›).mono ?_ | refine (K3.out _ ‹_›).mono ?_); rintro e w9 ⟨rfl, hkw⟩))
    go_wp2
    go_ret
    exact ⟨ret_b E.out.symm, SAB.low (‹SAB a b w _›)⟩
theorem BX.on {a : Adr} {w w1 w2 : World} (h : Boxed a.v6 a.hi a.lo w w1) (k : Below w1.heap.size w1 w2) : Boxed a.v6 a.hi a.lo w w2 := box_left (low_trans h.2.2.2 k)
theorem BX.low {a : Adr} {w w1 : World} (h : Boxed a.v6 a.hi a.lo w w1) : Below w.heap.size w w1 := ((Below.refl _ _).alloc (Nat.le_refl _) _).trans (h.2.2.2.mono (by simp))
set_option maxHeartbeats 2000000 in
theorem textG_any (a : Adr) (w : World) (ha : a.ok) :
    Calls Try.prog 11 #[.agg #[.bool a.v6, .int .u64 a.hi, .int .u64 a.lo]] w fun e w' => e = .returned (.string ⟨(textG a).toArray⟩) ∧ Below w.heap.size w w' := by
  have K1 : Hid (∀ W, Boxed a.v6 a.hi a.lo w W → Calls Try.prog 19 #[.agg #[.bool a.v6, .int .u64 a.hi, .int .u64 a.lo]] W fun e w' => e = .returned (.bool (rightA a)) ∧ Boxed a.v6 a.hi a.lo w w') := Lib.hid fun W h => (right_any a W ha).mono fun e w' ⟨he, hb⟩ => ⟨he, BX.on h hb⟩
  have K2 : Hid (∀ W, Boxed a.v6 a.hi a.lo w W → Calls Try.prog 8 #[.agg #[.bool a.v6, .int .u64 a.hi, .int .u64 a.lo]] W fun e w' => e = .returned (.agg #[.bool (groupN a).a.v6, .int .u64 (groupN a).a.hi, .int .u64 (groupN a).a.lo, .int .i64 (groupN a).n]) ∧ Boxed a.v6 a.hi a.lo w w') := Lib.hid fun W h => (groupOf_any a W ha).mono fun e w' ⟨he, hb⟩ => ⟨he, BX.on h hb⟩
  have K3 : Hid (∀ W, Boxed a.v6 a.hi a.lo w W → Calls Try.prog 21 #[.agg #[.bool (groupN a).a.v6, .int .u64 (groupN a).a.hi, .int .u64 (groupN a).a.lo, .int .i64 (groupN a).n]] W fun e w' => e = .returned (.string ⟨(textN (groupN a)).toArray⟩) ∧ Boxed a.v6 a.hi a.lo w w') := Lib.hid fun W h => (textN_any (groupN a) W (group_ok ha)).mono fun e w' ⟨he, hb⟩ => ⟨he, BX.on h hb⟩
  have hk0 : Boxed a.v6 a.hi a.lo w (w.alloc (.cells #[.bool a.v6, .int .u64 a.hi, .int .u64 a.lo] 24)) := box_left (Below.refl _ _)
  obtain ⟨c0, c1, c2, hs⟩ := id hk0
  cases hr : rightA a
  · have E : Hid (textG a = []) := Lib.hid (textG_no hr)
    rw [hr] at K1
    clear hr
    go_enter Try.func11, Try.ntmps11
    go_wp2_with fail
    (with_reducible refine (K1.out _ hk0).mono ?_)
    rintro e w1 ⟨rfl, hk1⟩
    go_wp2_with fail
    go_ret
    exact ⟨ret_s (a := []) E.out.symm, BX.low hk1⟩
  · have E : Hid (textG a = textN (groupN a)) := Lib.hid (textG_yes hr)
    rw [hr] at K1
    clear hr
    go_enter Try.func11, Try.ntmps11
    go_wp2_with fail
    (with_reducible refine (K1.out _ hk0).mono ?_)
    rintro e w1 ⟨rfl, hk1⟩
    clear c0 c1 c2 hs
    obtain ⟨c0, c1, c2, hs⟩ := id hk1
    go_wp2_with fail
    (with_reducible refine (K2.out _ hk1).mono ?_)
    rintro e w2 ⟨rfl, hk2⟩
    go_wp2_with fail
    (with_reducible refine (K3.out _ hk2).mono ?_)
    rintro e w3 ⟨rfl, hk3⟩
    go_wp2_with fail
    go_ret
    exact ⟨ret_s E.out.symm, BX.low hk3⟩
end Go.Proofs.Ytmkpacbalnkdbaa.Gr
