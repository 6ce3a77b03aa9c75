/- Contracts of package cidr: what is in a subnet; the subnet of one address; masks. -/
import Derived.Test.YtmkpacbalnkdbaaCidr
namespace Go.Proofs.Ytmkpacbalnkdbaa.Ci
set_option maxRecDepth 100000
open Go.ChangeShapes Go.WideShapes Go.ChangeAt Go.RowKit
open Dec Words V4 V6 Ad
set_option linter.unusedVariables false
theorem sizes {n m : Nat} (h : n + 2 ≤ m) : n < m ∧ n + 1 < m ∧ ¬ n = m ∧ ¬ n + 1 = m ∧ ¬ m = n ∧ ¬ m = n + 1 := ⟨by omega, by omega, by omega, by omega, by omega, by omega⟩
set_option maxHeartbeats 1000000 in
theorem has_any (n : Net) (a : Adr) (w : World) (hn : n.ok) (ha : a.ok) :
    Calls Try.prog 13 #[.agg #[.bool n.a.v6, .int .u64 n.a.hi, .int .u64 n.a.lo, .int .i64 n.n], .agg #[.bool a.v6, .int .u64 a.hi, .int .u64 a.lo]] w fun e w' => e = .returned (.bool (hasN n a)) ∧ Below w.heap.size w w' := by
  obtain ⟨hn0, hn1, hn2⟩ := hn
  have MK := Lib.hid (fun W => make_any a n.n W ha hn1 hn2)
  have EQ := fun W => eqNet (makeN a n.n) n W
  cases hm : makeB a n.n
  · have E : Hid (hasN n a = false) := Lib.hid (by unfold hasN; rw [hm]; rfl)
    rw [hm] at MK
    clear hm
    go_enter Try.func13, Try.ntmps13
    go_wp2_with fail
    refine (MK.out _).mono ?_
    rintro e w1 ⟨rfl, hb1⟩
    obtain ⟨hc, hf⟩ := old hb1
    obtain ⟨z0, z1, z2, z3, z4, z5⟩ := sizes (show w.heap.size + 2 ≤ w1.heap.size by have := hb1.size; simp at this; omega)
    go_wp2_with fail
    go_ret
    exact ⟨ret_b E.out.symm, ((two_low _ _ _).trans (hb1.mono (by simp; omega))).alloc (by omega) _⟩
  · have E : Hid (hasN n a = sameN (makeN a n.n) n) := Lib.hid (by unfold hasN; rw [hm]; rfl)
    rw [hm] at MK
    clear hm
    go_enter Try.func13, Try.ntmps13
    go_wp2_with fail
    refine (MK.out _).mono ?_
    rintro e w1 ⟨rfl, hb1⟩
    obtain ⟨hc, hf⟩ := old hb1
    obtain ⟨z0, z1, z2, z3, z4, z5⟩ := sizes (show w.heap.size + 2 ≤ w1.heap.size by have := hb1.size; simp at this; omega)
    go_wp2_with fail
    go_ret
    exact ⟨ret_b E.out.symm, ((two_low _ _ _).trans (hb1.mono (by simp; omega))).alloc (by omega) _⟩
theorem rightN_any (n : Net) (w : World) (hn : n.ok) :
    Calls Try.prog 31 #[.agg #[.bool n.a.v6, .int .u64 n.a.hi, .int .u64 n.a.lo, .int .i64 n.n]] w fun e w' => e = .returned (.bool (rightN n)) ∧ Below w.heap.size w w' := by
  have HA := Lib.hid (fun W => has_any n n.a W hn hn.1)
  have E : Hid (rightN n = hasN n n.a) := Lib.hid rfl
  go_enter Try.func31, Try.ntmps31
  go_wp2_with fail
  refine (HA.out _).mono ?_
  rintro e w1 ⟨rfl, hb1⟩
  go_wp2_with fail
  go_ret
  exact ⟨ret_b E.out.symm, ((Below.refl _ _).alloc (Nat.le_refl _) _).trans (hb1.mono (by simp))⟩
theorem low_drew {B : Nat} {a w : World} (h : Below B a w) : Below B a w.drew := low_drewN h 1
theorem frozen_left {W w' : World} (h : Below W.heap.size W w') {b o : Nat} (hl : b < W.heap.size) (hc : W.frozen? ⟨b, o, none⟩ = false) : w'.frozen? ⟨b, o, none⟩ = false := ((old h).2 b o hl).trans hc
theorem swap {P R : World → Prop} {X : World} (h : R X) (k : ∀ w5, R w5 → P w5) : P X := k X h
abbrev OF (n : Net) (p : Nat) (w' : World) : Prop := w'.cell? ⟨p, 0, none⟩ = some (.bool n.a.v6) ∧ w'.cell? ⟨p, 1, none⟩ = some (.int .u64 n.a.hi) ∧ w'.cell? ⟨p, 2, none⟩ = some (.int .u64 n.a.lo) ∧ w'.cell? ⟨p, 3, none⟩ = some (.int .i64 n.n)
theorem own_set {n : Net} {p : Nat} {wm : World} (h0 : (wm.cell? ⟨p, 0, none⟩).isSome = true) (h1 : (wm.cell? ⟨p, 1, none⟩).isSome = true) (h2 : (wm.cell? ⟨p, 2, none⟩).isSome = true) (h3 : (wm.cell? ⟨p, 3, none⟩).isSome = true) :
    OF n p ((((wm.setCell ⟨p, 0, none⟩ (.bool n.a.v6)).setCell ⟨p, 1, none⟩ (.int .u64 n.a.hi)).setCell ⟨p, 2, none⟩ (.int .u64 n.a.lo)).setCell ⟨p, 3, none⟩ (.int .i64 n.n)) := by
  refine ⟨?_, ?_, ?_, ?_⟩ <;> simp [go_sem, h0, h1, h2, h3]
theorem own_new {n : Net} {wm : World} {t : TypeId} : OF n wm.heap.size (wm.alloc (.cells #[.bool n.a.v6, .int .u64 n.a.hi, .int .u64 n.a.lo, .int .i64 n.n] t)) := by
  refine ⟨?_, ?_, ?_, ?_⟩ <;> simp [go_sem]
abbrev SF (a : Adr) (w : World) (w' : World) : Prop := w'.cell? ⟨w.heap.size, 0, none⟩ = some (.bool a.v6) ∧ w'.cell? ⟨w.heap.size, 1, none⟩ = some (.int .u64 a.hi) ∧ w'.cell? ⟨w.heap.size, 2, none⟩ = some (.int .u64 a.lo) ∧ w'.cell? ⟨w.heap.size + 1, 0, none⟩ = some (.bool false) ∧ w'.cell? ⟨w.heap.size + 1, 1, none⟩ = some (.int .u64 0) ∧ w'.cell? ⟨w.heap.size + 1, 2, none⟩ = some (.int .u64 0) ∧ w'.cell? ⟨w.heap.size + 1, 3, none⟩ = some (.int .i64 0) ∧ w'.frozen? ⟨w.heap.size + 1, 0, none⟩ = false ∧ w'.frozen? ⟨w.heap.size + 1, 1, none⟩ = false ∧ w'.frozen? ⟨w.heap.size + 1, 2, none⟩ = false ∧ w'.frozen? ⟨w.heap.size + 1, 3, none⟩ = false ∧ Stays ((w.alloc (.cells #[.bool a.v6, .int .u64 a.hi, .int .u64 a.lo] 24)).alloc (.cells #[.bool false, .int .u64 0, .int .u64 0, .int .i64 0] 28)) w'
end Go.Proofs.Ytmkpacbalnkdbaa.Ci
