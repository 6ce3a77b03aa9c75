/- Plain mathematics of scores: points more, the limit, whole points. Imports nothing of the dump. -/
import Derived.Test.YthpimcnbfhogdaaHalfMath
namespace Go.Proofs.Ythpimcnbfhogdaa.Ha
open Sat
set_option linter.unusedVariables false
def penS (k : Int) : Int := if k = 1 then 1 else if k = 2 then 10 else if k = 3 then 20 else if k = 4 then 50 else if k = 5 then 100 else 0
def addS (s : Sc) (n h now : Int) : Sc := ⟨fit ((decayS s h now).p + fit n * 65536), (decayS s h now).a⟩
def limS (l : Int) : Int := if l < 1 then 1 else if l > 16777216 then 16777216 else l
def wholeS (s : Sc) : Int := if s.p < 0 then 0 else s.p / 65536
def overS (s : Sc) (l : Int) : Bool := decide (limS l * 65536 ≤ s.p)
theorem lim_bd (l : Int) : 1 ≤ limS l ∧ limS l ≤ 16777216 := by unfold limS; repeat (first | split | omega)
theorem over_is (s : Sc) (l : Int) : decide (limS l ≤ wholeS s) = overS s l := by
  have := lim_bd l
  unfold overS wholeS
  refine decide_eq_decide.mpr ?_
  split <;> omega
theorem add_p (s : Sc) (n h now : Int) : 0 ≤ (addS s n h now).p ∧ (addS s n h now).p ≤ 1099511627776 := fit_bd _
theorem add_at (s : Sc) (n h now : Int) : 0 ≤ (addS s n h now).a ∧ (addS s n h now).a ≤ 1099511627776 := decay_at s h now
theorem decay_still (s : Sc) (h now p : Int) (h0 : 0 ≤ p) (h1 : p ≤ 1099511627776) : decayS ⟨p, (decayS s h now).a⟩ h now = ⟨p, (decayS s h now).a⟩ := by
  have hw : wholes (decayS s h now) h now = 0 := by rw [wholes_add s h now now (Int.le_refl _)]; omega
  have hw2 : wholes ⟨p, (decayS s h now).a⟩ h now = 0 := hw
  have ha := decay_at s h now
  show Sc.mk (fit p / 2 ^ (wholes ⟨p, (decayS s h now).a⟩ h now).toNat) (fit (decayS s h now).a + wholes ⟨p, (decayS s h now).a⟩ h now * lifeH h) = _
  rw [hw2, fit_of p h0 h1, fit_of _ ha.1 ha.2]
  simp
/-- Points added at one tick count like their sum. -/
theorem add_add (s : Sc) (a b h now : Int) (ha : 0 ≤ a ∧ a ≤ 1073741824) (hb : 0 ≤ b ∧ b ≤ 1073741824) : addS (addS s a h now) b h now = addS s (a + b) h now := by
  have hd := decay_p s h now
  have e : decayS (addS s a h now) h now = addS s a h now := decay_still s h now _ (fit_bd _).1 (fit_bd _).2
  show Sc.mk (fit ((decayS (addS s a h now) h now).p + fit b * 65536)) (decayS (addS s a h now) h now).a = _
  rw [e]
  show Sc.mk (fit (fit ((decayS s h now).p + fit a * 65536) + fit b * 65536)) (decayS s h now).a = Sc.mk (fit ((decayS s h now).p + fit (a + b) * 65536)) (decayS s h now).a
  rw [fit_of a (by omega) (by omega), fit_of b (by omega) (by omega), fit_of (a + b) (by omega) (by omega), fit_add_l (by omega) (by omega)]
  congr 2
  omega
theorem add_later (s : Sc) (n h : Int) {lo hi : Int} (hl : lo ≤ hi) : (addS s n h hi).p ≤ (addS s n h lo).p :=
  fit_mono (by have := decay_less s h lo hi hl; omega)
theorem add_fewer (s : Sc) (h now : Int) {a b : Int} (hl : a ≤ b) : (addS s a h now).p ≤ (addS s b h now).p :=
  fit_mono (by have := fit_mono hl; omega)
theorem more_is (P m : Int) (hp : 0 ≤ P) (hm : 16777216 < m) : fit (P + 16777216 * 65536) = fit (P + m * 65536) := by
  rw [fit_hi _ (by omega), fit_hi _ (by omega)]
end Go.Proofs.Ythpimcnbfhogdaa.Ha
