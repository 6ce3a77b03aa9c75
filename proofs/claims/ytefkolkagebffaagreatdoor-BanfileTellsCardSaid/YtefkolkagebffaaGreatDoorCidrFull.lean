/- Contract of package cidr: Full, over Make. -/
import Derived.Test.YtefkolkagebffaaGreatDoorCidrKit
namespace Go.Proofs.YtefkolkagebffaaGreatDoor.Ci
set_option maxRecDepth 100000
open Go.ChangeShapes Go.WideShapes Go.ChangeAt Go.RowKit
open Dec Words V4 V6 Ad
set_option linter.unusedVariables false
set_option maxHeartbeats 4000000 in
theorem full_of (a : Adr) (w : World) (ha : a.ok) (MK0 : ∀ W, Calls Tryz.prog 54 #[.agg #[.bool a.v6, .int .u64 a.hi, .int .u64 a.lo], .int .i64 (bitsA a : Nat)] W fun e w' => e = .returned (.tuple #[.agg #[.bool (makeN a (bitsA a : Int)).a.v6, .int .u64 (makeN a (bitsA a : Int)).a.hi, .int .u64 (makeN a (bitsA a : Int)).a.lo, .int .i64 (makeN a (bitsA a : Int)).n], .bool (makeB a (bitsA a : Int))]) ∧ Below W.heap.size W w') :
    Calls Tryz.prog 51 #[.agg #[.bool a.v6, .int .u64 a.hi, .int .u64 a.lo]] w fun e w' => e = .returned (.agg #[.bool (fullN a).a.v6, .int .u64 (fullN a).a.hi, .int .u64 (fullN a).a.lo, .int .i64 (fullN a).n]) ∧ Below w.heap.size w w' := by
  have hb := bitsA_two a
  have MK := Lib.hid MK0
  clear MK0
  have BI := Lib.hid (fun W => bits_any a W)
  have c0 : ∀ w', Stays ((w.alloc (.cells #[.bool a.v6, .int .u64 a.hi, .int .u64 a.lo] 36)).alloc (.cells #[.bool false, .int .u64 0, .int .u64 0, .int .i64 0] 38)) w' → SF a w w' := fun w' h => ⟨cells_left h (by simp [go_sem]), cells_left h (by simp [go_sem]), cells_left h (by simp [go_sem]), cells_left h (by simp [go_sem]), cells_left h (by simp [go_sem]), cells_left h (by simp [go_sem]), cells_left h (by simp [go_sem]), frozen_left h (by simp) (by simp [go_sem]), frozen_left h (by simp) (by simp [go_sem]), frozen_left h (by simp) (by simp [go_sem]), frozen_left h (by simp) (by simp [go_sem]), h⟩
  have IN := Lib.hid c0
  have K1 : Hid (∀ W, SF a w W → Calls Tryz.prog 85 #[.agg #[.bool a.v6, .int .u64 a.hi, .int .u64 a.lo]] W fun e w' => e = .returned (.int .i64 (bitsA a : Nat)) ∧ SF a w w' ∧ Below W.heap.size W w') := Lib.hid fun W h => (BI.out W).mono fun e w' ⟨he, hb⟩ => ⟨he, IN.out _ (low_trans h.2.2.2.2.2.2.2.2.2.2.2 hb), hb⟩
  have K2 : Hid (∀ W, SF a w W → Calls Tryz.prog 54 #[.agg #[.bool a.v6, .int .u64 a.hi, .int .u64 a.lo], .int .i64 (bitsA a : Nat)] W fun e w' => e = .returned (.tuple #[.agg #[.bool (makeN a (bitsA a : Int)).a.v6, .int .u64 (makeN a (bitsA a : Int)).a.hi, .int .u64 (makeN a (bitsA a : Int)).a.lo, .int .i64 (makeN a (bitsA a : Int)).n], .bool (makeB a (bitsA a : Int))]) ∧ SF a w w' ∧ Below W.heap.size W w') := Lib.hid fun W h => (MK.out W).mono fun e w' ⟨he, hb⟩ => ⟨he, IN.out _ (low_trans h.2.2.2.2.2.2.2.2.2.2.2 hb), hb⟩
  have E : Hid (fullN a = makeN a (bitsA a : Int)) := Lib.hid rfl
  rw [E.out]
  have hk0 : SF a w ((w.alloc (.cells #[.bool a.v6, .int .u64 a.hi, .int .u64 a.lo] 36)).alloc (.cells #[.bool false, .int .u64 0, .int .u64 0, .int .i64 0] 38)) := c0 _ (Below.refl _ _)
  clear c0 hb
  go_enter Tryz.func51, Tryz.ntmps51
  go_wp2_with fail
  go_region_held3 (fun w' => w'.cell? ⟨w.heap.size, 0, none⟩ = some (.bool a.v6) ∧ w'.cell? ⟨w.heap.size, 1, none⟩ = some (.int .u64 a.hi) ∧ w'.cell? ⟨w.heap.size, 2, none⟩ = some (.int .u64 a.lo) ∧ w'.cell? ⟨w.heap.size + 1, 0, none⟩ = some (.bool false) ∧ w'.cell? ⟨w.heap.size + 1, 1, none⟩ = some (.int .u64 0) ∧ w'.cell? ⟨w.heap.size + 1, 2, none⟩ = some (.int .u64 0) ∧ w'.cell? ⟨w.heap.size + 1, 3, none⟩ = some (.int .i64 0) ∧ w'.frozen? ⟨w.heap.size + 1, 0, none⟩ = false ∧ w'.frozen? ⟨w.heap.size + 1, 1, none⟩ = false ∧ w'.frozen? ⟨w.heap.size + 1, 2, none⟩ = false ∧ w'.frozen? ⟨w.heap.size + 1, 3, none⟩ = false ∧ Stays ((w.alloc (.cells #[.bool a.v6, .int .u64 a.hi, .int .u64 a.lo] 36)).alloc (.cells #[.bool false, .int .u64 0, .int .u64 0, .int .i64 0] 38)) w')
    (first
      | assumption
      | (refine IN.out _ ?_; repeat (first | exact Below.refl _ _ | exact Lib.Hid.out ‹_› | exact (‹SF a w _›).2.2.2.2.2.2.2.2.2.2.2 | refine low_drew ?_ | refine Below.alloc ?_ (by first | (simp; done) | (simp; omega)) _ | refine Below.setCell ?_ (by first | (simp; done) | (simp; omega)) _)))
    (first
      | (go_at_call 85; (with_reducible refine (K1.out _ ‹_›).mono ?_); rintro e wb ⟨rfl, hkw, hbw⟩; have hst := Lib.hid hkw.2.2.2.2.2.2.2.2.2.2.2; obtain ⟨z0, z1, z2, z3, z4, z5⟩ := sizes (show w.heap.size + 2 ≤ wb.heap.size by have := hkw.2.2.2.2.2.2.2.2.2.2.2.size; simpa using this); (try (have z6 : w.heap.size + 2 < wb.heap.size := by have := hbw.size; simp at this; omega)); obtain ⟨hcb, hfb⟩ := old hbw)
      | (go_at_call 54; (with_reducible refine (K2.out _ ‹_›).mono ?_); rintro e wm ⟨rfl, hkw, hbw⟩; have hst := Lib.hid hkw.2.2.2.2.2.2.2.2.2.2.2; obtain ⟨z0, z1, z2, z3, z4, z5⟩ := sizes (show w.heap.size + 2 ≤ wm.heap.size by have := hkw.2.2.2.2.2.2.2.2.2.2.2.size; simpa using this); (try (have z6 : w.heap.size + 2 < wm.heap.size := by have := hbw.size; simp at this; omega)); obtain ⟨hcm, hfm⟩ := old hbw))
  all_goals clear MK BI IN K1 K2
  all_goals (first
    | refine swap (P := fun w5 => Exit.then _ _ _ _ w5) (R := fun w5 => SF a w w5 ∧ OF (makeN a (bitsA a : Int)) wm.heap.size w5) ⟨by with_reducible assumption, by with_reducible exact own_new⟩ ?_
    | refine swap (P := fun w5 => Exit.then _ _ _ _ w5) (R := fun w5 => SF a w w5 ∧ OF (makeN a (bitsA a : Int)) wb.heap.size w5) ⟨by with_reducible assumption, by (with_reducible refine own_set ?_ ?_ ?_ ?_) <;> (rw [hcm _ _ (by simp)]; simp [go_sem])⟩ ?_
    | refine swap (P := fun w5 => Exit.then _ _ _ _ w5) (R := fun w5 => SF a w w5 ∧ OF (makeN a (bitsA a : Int)) (w.heap.size + 1 + 1) w5) ⟨by with_reducible assumption, by (with_reducible refine own_set ?_ ?_ ?_ ?_) <;> (rw [hcm _ _ (by omega), hcb _ _ (by simp)]; simp [go_sem])⟩ ?_)
  all_goals rintro w5 ⟨⟨k0, k1, k2, k3, k4, k5, k6, f0, f1, f2, f3, hs9⟩, o0, o1, o2, o3⟩
  all_goals try clear hcm hfm
  all_goals try clear hcb hfb
  all_goals go_wp2_with fail
  all_goals exact bodyPost_ret (v := .agg #[.bool (makeN a (bitsA a : Int)).a.v6, .int .u64 (makeN a (bitsA a : Int)).a.hi, .int .u64 (makeN a (bitsA a : Int)).a.lo, .int .i64 (makeN a (bitsA a : Int)).n]) (by simp [results, Tryz.results51, go_sem, k3, k4, k5, k6]) rfl ⟨rfl, (((((two_low _ _ _).trans (hs9.mono (by simp; omega))).setCell (by simp) _).setCell (by simp) _).setCell (by simp) _).setCell (by simp) _⟩
end Go.Proofs.YtefkolkagebffaaGreatDoor.Ci
