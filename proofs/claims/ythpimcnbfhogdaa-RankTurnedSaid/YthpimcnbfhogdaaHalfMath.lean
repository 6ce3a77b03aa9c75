/- Plain mathematics of points that decay. Imports nothing of the dump. -/
import Derived.Test.YthpimcnbfhogdaaSatMath
namespace Go.Proofs.Ythpimcnbfhogdaa.Ha
open Sat
set_option linter.unusedVariables false
/-- A score: points, and as of which tick. -/
structure Sc where
  p : Int
  a : Int
def Sc.ok (s : Sc) : Prop := (-9223372036854775808 ≤ s.p ∧ s.p ≤ 9223372036854775807) ∧ (-9223372036854775808 ≤ s.a ∧ s.a ≤ 9223372036854775807)
def lifeH (h : Int) : Int := if h < 1 then 1 else if h > 1073741824 then 1073741824 else h
theorem life_bd (h : Int) : 1 ≤ lifeH h ∧ lifeH h ≤ 1073741824 := by unfold lifeH; repeat (first | split | omega)
def wholes (s : Sc) (h now : Int) : Int := fit (fit now - fit s.a) / lifeH h
def decayS (s : Sc) (h now : Int) : Sc := ⟨fit s.p / 2 ^ (wholes s h now).toNat, fit s.a + wholes s h now * lifeH h⟩
theorem wholes_nn (s : Sc) (h now : Int) : 0 ≤ wholes s h now := Int.ediv_nonneg (fit_bd _).1 (by have := life_bd h; omega)
theorem wholes_mul (s : Sc) (h now : Int) : 0 ≤ wholes s h now * lifeH h ∧ wholes s h now * lifeH h ≤ fit (fit now - fit s.a) :=
  ⟨Int.mul_nonneg (wholes_nn s h now) (by have := life_bd h; omega), Int.ediv_mul_le _ (by have := life_bd h; omega)⟩
theorem wholes_le (s : Sc) (h now : Int) : wholes s h now ≤ 1099511627776 := by
  have := Int.ediv_le_self (lifeH h) (fit_bd (fit now - fit s.a)).1
  have := (fit_bd (fit now - fit s.a)).2
  unfold wholes; omega
theorem pow_pos' (k : Nat) : (0 : Int) < 2 ^ k := Int.pow_pos (by omega)
theorem part_bd (n : Int) (h : 0 ≤ n) (k : Nat) : 0 ≤ n / 2 ^ k ∧ n / 2 ^ k ≤ n :=
  ⟨Int.ediv_nonneg h (Int.le_of_lt (pow_pos' k)), Int.ediv_le_self _ h⟩
theorem sub_fit {m A : Int} (hA : 0 ≤ A ∧ A ≤ 1099511627776) (hm : 0 ≤ m ∧ m ≤ 1099511627776) : fit (m - A) = if m ≤ A then 0 else m - A := by
  unfold fit; repeat (first | split | omega)
theorem decay_at (s : Sc) (h now : Int) : 0 ≤ (decayS s h now).a ∧ (decayS s h now).a ≤ 1099511627776 := by
  have h1 := wholes_mul s h now
  have h2 := fit_bd s.a
  have h3 := fit_bd now
  have h4 := sub_fit h2 h3
  show 0 ≤ fit s.a + wholes s h now * lifeH h ∧ fit s.a + wholes s h now * lifeH h ≤ 1099511627776
  rw [h4] at h1
  split at h1 <;> omega
theorem decay_p (s : Sc) (h now : Int) : 0 ≤ (decayS s h now).p ∧ (decayS s h now).p ≤ 1099511627776 := by
  have h1 := part_bd (fit s.p) (fit_bd s.p).1 (wholes s h now).toNat
  have h2 := fit_bd s.p
  exact ⟨h1.1, Int.le_trans h1.2 h2.2⟩
theorem decay_ok (s : Sc) (h now : Int) : (decayS s h now).ok := by
  have h1 := decay_p s h now
  have h2 := decay_at s h now
  refine ⟨⟨?_, ?_⟩, ⟨?_, ?_⟩⟩ <;> omega
theorem div_pow (n : Int) (h : 0 ≤ n) (i j : Nat) : n / 2 ^ i / 2 ^ j = n / 2 ^ (i + j) := by
  rw [Int.ediv_ediv, if_neg (fun h => by have := pow_pos' i; omega), Int.pow_add]
  simp
/-- Halved once more. -/
theorem half_more (n : Int) (h : 0 ≤ n) (j : Nat) : n / 2 ^ j / 2 = n / 2 ^ (j + 1) := by
  have := div_pow n h j 1
  simpa using this
theorem wholes_add (s : Sc) (h lo hi : Int) (hl : lo ≤ hi) : wholes (decayS s h lo) h hi = wholes s h hi - wholes s h lo := by
  have hL := life_bd h
  have hA := fit_bd s.a
  have hlo := fit_bd lo
  have hhi := fit_bd hi
  have hm := fit_mono hl
  have hk := wholes_mul s h lo
  have e0 : fit (decayS s h lo).a = fit s.a + wholes s h lo * lifeH h := fit_of _ (decay_at s h lo).1 (decay_at s h lo).2
  have e1 : wholes (decayS s h lo) h hi = fit (fit hi - (fit s.a + wholes s h lo * lifeH h)) / lifeH h := by unfold wholes at *; rw [e0]
  rw [e1]
  rw [sub_fit hA hlo] at hk
  by_cases hc : fit lo ≤ fit s.a
  · have z : wholes s h lo = 0 := by unfold wholes; rw [sub_fit hA hlo, if_pos hc]; simp
    rw [z]; simp [wholes]
  · rw [if_neg hc] at hk
    have e2 : fit (fit hi - (fit s.a + wholes s h lo * lifeH h)) = (fit hi - fit s.a) + (- wholes s h lo) * lifeH h := by
      rw [fit_of _ (by omega) (by omega), Int.neg_mul]; omega
    have e3 : wholes s h hi = (fit hi - fit s.a) / lifeH h := by unfold wholes; rw [fit_of _ (by omega) (by omega)]
    rw [e2, Int.add_mul_ediv_right _ _ (by omega), e3]; omega
theorem wholes_mono (s : Sc) (h lo hi : Int) (hl : lo ≤ hi) : wholes s h lo ≤ wholes s h hi := by
  have h1 := wholes_add s h lo hi hl
  have h2 := wholes_nn (decayS s h lo) h hi
  omega
/-- To look in between changes nothing. -/
theorem decay_twice (s : Sc) (h lo hi : Int) (hl : lo ≤ hi) : decayS (decayS s h lo) h hi = decayS s h hi := by
  have h1 := wholes_add s h lo hi hl
  have h2 := wholes_mono s h lo hi hl
  have h3 := wholes_nn s h lo
  have e0 : fit (decayS s h lo).a = fit s.a + wholes s h lo * lifeH h := fit_of _ (decay_at s h lo).1 (decay_at s h lo).2
  have e1 : fit (decayS s h lo).p = fit s.p / 2 ^ (wholes s h lo).toNat := fit_of _ (decay_p s h lo).1 (decay_p s h lo).2
  have e2 : (wholes s h lo).toNat + (wholes s h hi - wholes s h lo).toNat = (wholes s h hi).toNat := by omega
  show Sc.mk (fit (decayS s h lo).p / 2 ^ (wholes (decayS s h lo) h hi).toNat) (fit (decayS s h lo).a + wholes (decayS s h lo) h hi * lifeH h) = Sc.mk (fit s.p / 2 ^ (wholes s h hi).toNat) (fit s.a + wholes s h hi * lifeH h)
  rw [h1, e0, e1, div_pow _ (fit_bd _).1, e2, Int.sub_mul]
  congr 1
  omega
/-- Points never grow with time. -/
theorem decay_less (s : Sc) (h lo hi : Int) (hl : lo ≤ hi) : (decayS s h hi).p ≤ (decayS s h lo).p := by
  rw [← decay_twice s h lo hi hl]
  have h1 := decay_p s h lo
  have e1 : fit (decayS s h lo).p = (decayS s h lo).p := fit_of _ h1.1 h1.2
  show fit (decayS s h lo).p / 2 ^ (wholes (decayS s h lo) h hi).toNat ≤ _
  rw [e1]
  exact (part_bd _ h1.1 _).2
/-- The half-lives, one by one: after j of them the next is still whole. -/
theorem wholes_next (s : Sc) (h now : Int) (j : Nat) (hl : lifeH h ≤ fit now - (fit s.a + j * lifeH h)) : ((j + 1 : Nat) : Int) ≤ wholes s h now := by
  have hL := life_bd h
  have hA := fit_bd s.a
  have hn := fit_bd now
  have e : ((j + 1 : Nat) : Int) * lifeH h = j * lifeH h + lifeH h := by rw [Int.natCast_add, Int.add_mul]; simp
  have hp : 0 ≤ (j : Int) * lifeH h := Int.mul_nonneg (by omega) (by omega)
  unfold wholes
  rw [Int.le_ediv_iff_mul_le (by omega), e, fit_of _ (by omega) (by omega)]
  omega
/-- No whole one is left. -/
theorem wholes_last (s : Sc) (h now : Int) (j : Nat) (hj : (j : Int) ≤ wholes s h now) (hl : ¬ lifeH h ≤ fit now - (fit s.a + j * lifeH h)) : wholes s h now = j := by
  have hL := life_bd h
  have hk := wholes_mul s h now
  have hm : wholes s h now < (j : Int) + 1 := by
    refine Int.lt_of_mul_lt_mul_right (a := lifeH h) ?_ (by omega)
    rw [Int.add_mul, Int.one_mul]
    rw [sub_fit (fit_bd _) (fit_bd _)] at hk
    have hp : 0 ≤ (j : Int) * lifeH h := Int.mul_nonneg (by omega) (by omega)
    split at hk <;> omega
  omega
/-- Where no points are left, all at once. -/
theorem wholes_rest (s : Sc) (h now : Int) (j : Nat) (hl : lifeH h ≤ fit now - (fit s.a + j * lifeH h)) : fit now - (fit now - (fit s.a + j * lifeH h)) % lifeH h = fit s.a + wholes s h now * lifeH h := by
  have hL := life_bd h
  have hA := fit_bd s.a
  have hn := fit_bd now
  have hp : 0 ≤ (j : Int) * lifeH h := Int.mul_nonneg (by omega) (by omega)
  have e : fit now - (fit s.a + j * lifeH h) = (fit now - fit s.a) + (-(j : Int)) * lifeH h := by rw [Int.neg_mul]; omega
  have e2 : fit (fit now - fit s.a) = fit now - fit s.a := fit_of _ (by omega) (by omega)
  rw [e, Int.add_mul_emod_self_right]
  unfold wholes
  rw [e2]
  rw [Int.emod_def, Int.mul_comm (lifeH h)]
  omega
theorem none_left (s : Sc) (h now : Int) (j : Nat) (hj : (j : Int) ≤ wholes s h now) (hz : fit s.p / 2 ^ j = 0) : fit s.p / 2 ^ (wholes s h now).toNat = 0 := by
  have e : (wholes s h now).toNat = j + ((wholes s h now).toNat - j) := by omega
  rw [e, ← div_pow _ (fit_bd _).1, hz]
  simp
end Go.Proofs.Ythpimcnbfhogdaa.Ha
