/- Contracts of package cidr: what is in a subnet; the subnet of one address; masks. -/
import Derived.Test.YtoanbaaonkckmaaDoorCidr
namespace Go.Proofs.YtoanbaaonkckmaaDoor.Ci
set_option maxRecDepth 100000
open Go.ChangeShapes Go.WideShapes Go.ChangeAt Go.RowKit
open Dec Words V4 V6 Ad
set_option linter.unusedVariables false
theorem sizes {n m : Nat} (h : n + 2 ≤ m) : n < m ∧ n + 1 < m ∧ ¬ n = m ∧ ¬ n + 1 = m ∧ ¬ m = n ∧ ¬ m = n + 1 := ⟨by omega, by omega, by omega, by omega, by omega, by omega⟩
set_option maxHeartbeats 1000000 in
theorem has_any (n : Net) (a : Adr) (w : World) (hn : n.ok) (ha : a.ok) :
    Calls Tryd.prog 19 #[.agg #[.bool n.a.v6, .int .u64 n.a.hi, .int .u64 n.a.lo, .int .i64 n.n], .agg #[.bool a.v6, .int .u64 a.hi, .int .u64 a.lo]] w fun e w' => e = .returned (.bool (hasN n a)) ∧ Below w.heap.size w w' := by
  obtain ⟨hn0, hn1, hn2⟩ := hn
  have MK := Lib.hid (fun W => make_any a n.n W ha hn1 hn2)
  have EQ := fun W => eqNet (makeN a n.n) n W
  cases hm : makeB a n.n
  · have E : Hid (hasN n a = false) := Lib.hid (by unfold hasN; rw [hm]; rfl)
    rw [hm] at MK
    clear hm
    go_enter Tryd.func19, Tryd.ntmps19
    go_wp2_with fail
    refine (MK.out _).mono ?_
    rintro e w1 ⟨rfl, hb1⟩
    obtain ⟨hc, hf⟩ := old hb1
    obtain ⟨z0, z1, z2, z3, z4, z5⟩ := sizes (show w.heap.size + 2 ≤ w1.heap.size by have := hb1.size; simp at this; omega)
    go_wp2_with fail
    go_ret
    exact ⟨ret_b E.out.symm, ((two_low _ _ _).trans (hb1.mono (by simp; omega))).alloc (by omega) _⟩
  · have E : Hid (hasN n a = sameN (makeN a n.n) n) := Lib.hid (by unfold hasN; rw [hm]; rfl)
    rw [hm] at MK
    clear hm
    go_enter Tryd.func19, Tryd.ntmps19
    go_wp2_with fail
    refine (MK.out _).mono ?_
    rintro e w1 ⟨rfl, hb1⟩
    obtain ⟨hc, hf⟩ := old hb1
    obtain ⟨z0, z1, z2, z3, z4, z5⟩ := sizes (show w.heap.size + 2 ≤ w1.heap.size by have := hb1.size; simp at this; omega)
    go_wp2_with fail
    go_ret
    exact ⟨ret_b E.out.symm, ((two_low _ _ _).trans (hb1.mono (by simp; omega))).alloc (by omega) _⟩
theorem rightN_any (n : Net) (w : World) (hn : n.ok) :
    Calls Tryd.prog 10 #[.agg #[.bool n.a.v6, .int .u64 n.a.hi, .int .u64 n.a.lo, .int .i64 n.n]] w fun e w' => e = .returned (.bool (rightN n)) ∧ Below w.heap.size w w' := by
  have HA := Lib.hid (fun W => has_any n n.a W hn hn.1)
  have E : Hid (rightN n = hasN n n.a) := Lib.hid rfl
  go_enter Tryd.func10, Tryd.ntmps10
  go_wp2_with fail
  refine (HA.out _).mono ?_
  rintro e w1 ⟨rfl, hb1⟩
  go_wp2_with fail
  go_ret
  exact ⟨ret_b E.out.symm, ((Below.refl _ _).alloc (Nat.le_refl _) _).trans (hb1.mono (by simp))⟩
theorem low_drew {B : Nat} {a w : World} (h : Below B a w) : Below B a w.drew := low_drewN h 1
theorem frozen_left {W w' : World} (h : Below W.heap.size W w') {b o : Nat} (hl : b < W.heap.size) (hc : W.frozen? ⟨b, o, none⟩ = false) : w'.frozen? ⟨b, o, none⟩ = false := ((old h).2 b o hl).trans hc
theorem swap {P R : World → Prop} {X : World} (h : R X) (k : ∀ w5, R w5 → P w5) : P X := k X h
abbrev OF (n : Net) (p : Nat) (w' : World) : Prop := w'.cell? ⟨p, 0, none⟩ = some (.bool n.a.v6) ∧ w'.cell? ⟨p, 1, none⟩ = some (.int .u64 n.a.hi) ∧ w'.cell? ⟨p, 2, none⟩ = some (.int .u64 n.a.lo) ∧ w'.cell? ⟨p, 3, none⟩ = some (.int .i64 n.n)
theorem own_set {n : Net} {p : Nat} {wm : World} (h0 : (wm.cell? ⟨p, 0, none⟩).isSome = true) (h1 : (wm.cell? ⟨p, 1, none⟩).isSome = true) (h2 : (wm.cell? ⟨p, 2, none⟩).isSome = true) (h3 : (wm.cell? ⟨p, 3, none⟩).isSome = true) :
    OF n p ((((wm.setCell ⟨p, 0, none⟩ (.bool n.a.v6)).setCell ⟨p, 1, none⟩ (.int .u64 n.a.hi)).setCell ⟨p, 2, none⟩ (.int .u64 n.a.lo)).setCell ⟨p, 3, none⟩ (.int .i64 n.n)) := by
  refine ⟨?_, ?_, ?_, ?_⟩ <;> simp [go_sem, h0, h1, h2, h3]
theorem own_new {n : Net} {wm : World} {t : TypeId} : OF n wm.heap.size (wm.alloc (.cells #[.bool n.a.v6, .int .u64 n.a.hi, .int .u64 n.a.lo, .int .i64 n.n] t)) := by
  refine ⟨?_, ?_, ?_, ?_⟩ <;> simp [go_sem]
abbrev SF (a : Adr) (w : World) (w' : World) : Prop := w'.cell? ⟨w.heap.size, 0, none⟩ = some (.bool a.v6) ∧ w'.cell? ⟨w.heap.size, 1, none⟩ = some (.int .u64 a.hi) ∧ w'.cell? ⟨w.heap.size, 2, none⟩ = some (.int .u64 a.lo) ∧ w'.cell? ⟨w.heap.size + 1, 0, none⟩ = some (.bool false) ∧ w'.cell? ⟨w.heap.size + 1, 1, none⟩ = some (.int .u64 0) ∧ w'.cell? ⟨w.heap.size + 1, 2, none⟩ = some (.int .u64 0) ∧ w'.cell? ⟨w.heap.size + 1, 3, none⟩ = some (.int .i64 0) ∧ w'.frozen? ⟨w.heap.size + 1, 0, none⟩ = false ∧ w'.frozen? ⟨w.heap.size + 1, 1, none⟩ = false ∧ w'.frozen? ⟨w.heap.size + 1, 2, none⟩ = false ∧ w'.frozen? ⟨w.heap.size + 1, 3, none⟩ = false ∧ Stays ((w.alloc (.cells #[.bool a.v6, .int .u64 a.hi, .int .u64 a.lo] 24)).alloc (.cells #[.bool false, .int .u64 0, .int .u64 0, .int .i64 0] 26)) w'
set_option maxHeartbeats 4000000 in
theorem full_any (a : Adr) (w : World) (ha : a.ok) :
    Calls Tryd.prog 14 #[.agg #[.bool a.v6, .int .u64 a.hi, .int .u64 a.lo]] w fun e w' => e = .returned (.agg #[.bool (fullN a).a.v6, .int .u64 (fullN a).a.hi, .int .u64 (fullN a).a.lo, .int .i64 (fullN a).n]) ∧ Below w.heap.size w w' := by
  have hb := bitsA_two a
  have MK := Lib.hid (fun W => make_any a (bitsA a : Int) W ha (by omega) (by omega))
  have BI := Lib.hid (fun W => bits_any a W)
  have c0 : ∀ w', Stays ((w.alloc (.cells #[.bool a.v6, .int .u64 a.hi, .int .u64 a.lo] 24)).alloc (.cells #[.bool false, .int .u64 0, .int .u64 0, .int .i64 0] 26)) w' → SF a w w' := fun w' h => ⟨cells_left h (by simp [go_sem]), cells_left h (by simp [go_sem]), cells_left h (by simp [go_sem]), cells_left h (by simp [go_sem]), cells_left h (by simp [go_sem]), cells_left h (by simp [go_sem]), cells_left h (by simp [go_sem]), frozen_left h (by simp) (by simp [go_sem]), frozen_left h (by simp) (by simp [go_sem]), frozen_left h (by simp) (by simp [go_sem]), frozen_left h (by simp) (by simp [go_sem]), h⟩
  have IN := Lib.hid c0
  have K1 : Hid (∀ W, SF a w W → Calls Tryd.prog 21 #[.agg #[.bool a.v6, .int .u64 a.hi, .int .u64 a.lo]] W fun e w' => e = .returned (.int .i64 (bitsA a : Nat)) ∧ SF a w w' ∧ Below W.heap.size W w') := Lib.hid fun W h => (BI.out W).mono fun e w' ⟨he, hb⟩ => ⟨he, IN.out _ (low_trans h.2.2.2.2.2.2.2.2.2.2.2 hb), hb⟩
  have K2 : Hid (∀ W, SF a w W → Calls Tryd.prog 6 #[.agg #[.bool a.v6, .int .u64 a.hi, .int .u64 a.lo], .int .i64 (bitsA a : Nat)] W fun e w' => e = .returned (.tuple #[.agg #[.bool (makeN a (bitsA a : Int)).a.v6, .int .u64 (makeN a (bitsA a : Int)).a.hi, .int .u64 (makeN a (bitsA a : Int)).a.lo, .int .i64 (makeN a (bitsA a : Int)).n], .bool (makeB a (bitsA a : Int))]) ∧ SF a w w' ∧ Below W.heap.size W w') := Lib.hid fun W h => (MK.out W).mono fun e w' ⟨he, hb⟩ => ⟨he, IN.out _ (low_trans h.2.2.2.2.2.2.2.2.2.2.2 hb), hb⟩
  have E : Hid (fullN a = makeN a (bitsA a : Int)) := Lib.hid rfl
  rw [E.out]
  have hk0 : SF a w ((w.alloc (.cells #[.bool a.v6, .int .u64 a.hi, .int .u64 a.lo] 24)).alloc (.cells #[.bool false, .int .u64 0, .int .u64 0, .int .i64 0] 26)) := c0 _ (Below.refl _ _)
  clear c0 hb
  go_enter Tryd.func14, Tryd.ntmps14
  go_wp2_with fail
  go_region_held3 (fun w' => w'.cell? ⟨w.heap.size, 0, none⟩ = some (.bool a.v6) ∧ w'.cell? ⟨w.heap.size, 1, none⟩ = some (.int .u64 a.hi) ∧ w'.cell? ⟨w.heap.size, 2, none⟩ = some (.int .u64 a.lo) ∧ w'.cell? ⟨w.heap.size + 1, 0, none⟩ = some (.bool false) ∧ w'.cell? ⟨w.heap.size + 1, 1, none⟩ = some (.int .u64 0) ∧ w'.cell? ⟨w.heap.size + 1, 2, none⟩ = some (.int .u64 0) ∧ w'.cell? ⟨w.heap.size + 1, 3, none⟩ = some (.int .i64 0) ∧ w'.frozen? ⟨w.heap.size + 1, 0, none⟩ = false ∧ w'.frozen? ⟨w.heap.size + 1, 1, none⟩ = false ∧ w'.frozen? ⟨w.heap.size + 1, 2, none⟩ = false ∧ w'.frozen? ⟨w.heap.size + 1, 3, none⟩ = false ∧ Stays ((w.alloc (.cells #[.bool a.v6, .int .u64 a.hi, .int .u64 a.lo] 24)).alloc (.cells #[.bool false, .int .u64 0, .int .u64 0, .int .i64 0] 26)) w')
    (first
      | assumption
      | (refine IN.out _ ?_; repeat (first | exact Below.refl _ _ | exact Lib.Hid.out ‹_› | exact (‹SF a w _›).2.2.2.2.2.2.2.2.2.2.2 | refine low_drew ?_ | refine Below.alloc ?_ (by first | (simp; done) | (simp; omega)) _ | refine Below.setCell ?_ (by first | (simp; done) | (simp; omega)) _)))
    (first
      | (go_at_call 21; (with_reducible refine (K1.out _ ‹_›).mono ?_); rintro e wb ⟨rfl, hkw, hbw⟩; have hst := Lib.hid hkw.2.2.2.2.2.2.2.2.2.2.2; obtain ⟨z0, z1, z2, z3, z4, z5⟩ := sizes (show w.heap.size + 2 ≤ wb.heap.size by have := hkw.2.2.2.2.2.2.2.2.2.2.2.size; simpa using this); (try (have z6 : w.heap.size + 2 < wb.heap.size := by have := hbw.size; simp at this; omega)); obtain ⟨hcb, hfb⟩ := old hbw)
      | (go_at_call 6; (with_reducible refine (K2.out _ ‹_›).mono ?_); rintro e wm ⟨rfl, hkw, hbw⟩; have hst := Lib.hid hkw.2.2.2.2.2.2.2.2.2.2.2; obtain ⟨z0, z1, z2, z3, z4, z5⟩ := sizes (show w.heap.size + 2 ≤ wm.heap.size by have := hkw.2.2.2.2.2.2.2.2.2.2.2.size; simpa using this); (try (have z6 : w.heap.size + 2 < wm.heap.size := by have := hbw.size; simp at this; omega)); obtain ⟨hcm, hfm⟩ := old hbw))
  all_goals clear MK BI IN K1 K2
  all_goals (first
    | refine swap (P := fun w5 => Exit.then _ _ _ _ w5) (R := fun w5 => SF a w w5 ∧ OF (makeN a (bitsA a : Int)) wm.heap.size w5) ⟨by with_reducible assumption, by with_reducible exact own_new⟩ ?_
    | refine swap (P := fun w5 => Exit.then _ _ _ _ w5) (R := fun w5 => SF a w w5 ∧ OF (makeN a (bitsA a : Int)) wb.heap.size w5) ⟨by with_reducible assumption, by (with_reducible refine own_set ?_ ?_ ?_ ?_) <;> (rw [hcm _ _ (by simp)]; simp [go_sem])⟩ ?_
    | refine swap (P := fun w5 => Exit.then _ _ _ _ w5) (R := fun w5 => SF a w w5 ∧ OF (makeN a (bitsA a : Int)) (w.heap.size + 1 + 1) w5) ⟨by with_reducible assumption, by (with_reducible refine own_set ?_ ?_ ?_ ?_) <;> (rw [hcm _ _ (by omega), hcb _ _ (by simp)]; simp [go_sem])⟩ ?_)
  all_goals rintro w5 ⟨⟨k0, k1, k2, k3, k4, k5, k6, f0, f1, f2, f3, hs9⟩, o0, o1, o2, o3⟩
  all_goals try clear hcm hfm
  all_goals try clear hcb hfb
  all_goals go_wp2_with fail
  all_goals exact bodyPost_ret (v := .agg #[.bool (makeN a (bitsA a : Int)).a.v6, .int .u64 (makeN a (bitsA a : Int)).a.hi, .int .u64 (makeN a (bitsA a : Int)).a.lo, .int .i64 (makeN a (bitsA a : Int)).n]) (by simp [results, Tryd.results14, go_sem, k3, k4, k5, k6]) rfl ⟨rfl, (((((two_low _ _ _).trans (hs9.mono (by simp; omega))).setCell (by simp) _).setCell (by simp) _).setCell (by simp) _).setCell (by simp) _⟩
end Go.Proofs.YtoanbaaonkckmaaDoor.Ci
