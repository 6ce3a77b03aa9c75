/- Plain mathematics of ticks: fit, sums, products, doublings. Imports nothing of the dump. -/
import Derived.WalkKit
import Derived.Test.YtgnjbbohphoojaaRows
import Derived.ProofKit
import Derived.LoopTactic
import Derived.Lib.Hide
namespace Go.Proofs.Ytgnjbbohphoojaa.Sat
def fit (n : Int) : Int := if n < 0 then 0 else if n > 1099511627776 then 1099511627776 else n
theorem fit_bd (n : Int) : 0 ≤ fit n ∧ fit n ≤ 1099511627776 := by unfold fit; split <;> (try split) <;> omega
theorem fit_of (n : Int) (h0 : 0 ≤ n) (h1 : n ≤ 1099511627776) : fit n = n := by unfold fit; rw [if_neg (by omega), if_neg (by omega)]
theorem fit_lo (n : Int) (h : n < 0) : fit n = 0 := by unfold fit; rw [if_pos h]
theorem fit_hi (n : Int) (h : 1099511627776 ≤ n) : fit n = 1099511627776 := by
  unfold fit; rw [if_neg (by omega)]; split <;> omega
theorem fit_mono {a b : Int} (h : a ≤ b) : fit a ≤ fit b := by unfold fit; repeat (first | split | omega)
theorem fit_fit (a : Int) : fit (fit a) = fit a := fit_of _ (fit_bd a).1 (fit_bd a).2
def add (a b : Int) : Int := fit (fit a + fit b)
def sub (a b : Int) : Int := fit (fit a - fit b)
def mul (a b : Int) : Int := fit (fit a * fit b)
def dbl : Nat → Int → Int
  | 0, a => fit a
  | k + 1, a => add (dbl k a) (dbl k a)
def twice (a k : Int) : Int := dbl k.toNat a
theorem mul_big {a b : Int} (h0 : fit a > 0) (h1 : fit b > 1099511627776 / fit a) : mul a b = 1099511627776 := by
  unfold mul; apply fit_hi
  have := Int.lt_mul_of_ediv_lt h0 h1; rw [Int.mul_comm] at this
  omega
theorem mul_small {a b : Int} (h0 : fit a > 0) (h1 : ¬ fit b > 1099511627776 / fit a) : 0 ≤ fit a * fit b ∧ fit a * fit b ≤ 1099511627776 := by
  refine ⟨Int.mul_nonneg (fit_bd a).1 (fit_bd b).1, ?_⟩
  have h2 : fit b ≤ 1099511627776 / fit a := by omega
  have := Int.mul_le_of_le_ediv h0 h2
  rw [Int.mul_comm]; exact this
theorem fit_add_fit {x y : Int} (hx : 0 ≤ x) (hy : 0 ≤ y) : fit (fit x + fit y) = fit (x + y) := by
  unfold fit; repeat (first | split | omega)
theorem fit_mul_fit {x y : Int} (hx : 0 ≤ x) (hy : 0 ≤ y) : fit (fit x * y) = fit (x * y) := by
  by_cases h : x ≤ 1099511627776
  · rw [fit_of x hx h]
  · rw [fit_hi x (by omega)]
    by_cases h0 : y = 0
    · subst h0; simp
    · have h1 : 1 ≤ y := by omega
      have e1 : (1099511627776 : Int) * 1 ≤ 1099511627776 * y := Int.mul_le_mul_of_nonneg_left h1 (by omega)
      have e2 : x * 1 ≤ x * y := Int.mul_le_mul_of_nonneg_left h1 hx
      rw [fit_hi _ (by omega), fit_hi _ (by omega)]
theorem dbl_eq (k : Nat) (a : Int) : dbl k a = fit (fit a * 2 ^ k) := by
  induction k with
  | zero => simp [dbl, fit_fit]
  | succ k ih =>
    have h0 : 0 ≤ fit a * 2 ^ k := Int.mul_nonneg (fit_bd a).1 (Int.pow_nonneg (by omega))
    have e : fit a * 2 ^ (k + 1) = fit a * 2 ^ k + fit a * 2 ^ k := by rw [Int.pow_succ, ← Int.mul_assoc]; omega
    rw [dbl, ih, add, fit_fit, fit_add_fit h0 h0, e]
theorem dbl_bd (k : Nat) (a : Int) : 0 ≤ dbl k a ∧ dbl k a ≤ 1099511627776 := by rw [dbl_eq]; exact fit_bd _
theorem dbl_succ (k : Nat) (a : Int) : dbl (k + 1) a = add (dbl k a) (dbl k a) := rfl
theorem dbl_zero_of {j : Nat} {a : Int} (h : dbl j a = 0) : ∀ m, dbl (j + m) a = 0
  | 0 => h
  | m + 1 => by rw [← Nat.add_assoc, dbl_succ, dbl_zero_of h m]; rfl
theorem dbl_top_of {j : Nat} {a : Int} (h : dbl j a = 1099511627776) : ∀ m, dbl (j + m) a = 1099511627776
  | 0 => h
  | m + 1 => by rw [← Nat.add_assoc, dbl_succ, dbl_top_of h m]; rfl
theorem dbl_41 (a : Int) : dbl 41 a = 0 ∨ dbl 41 a = 1099511627776 := by
  rw [dbl_eq]
  have h := fit_bd a
  by_cases h0 : fit a = 0
  · left; rw [h0]; rfl
  · right; apply fit_hi
    have : (1 : Int) * 2 ^ 41 ≤ fit a * 2 ^ 41 := Int.mul_le_mul_of_nonneg_right (by omega) (by decide)
    have e : (1 : Int) * 2 ^ 41 = 2199023255552 := by decide
    omega
theorem twice_stop {j : Nat} {a k : Int} (hj : (j : Int) ≤ k) (h : dbl j a ≤ 0 ∨ 1099511627776 ≤ dbl j a) : twice a k = dbl j a := by
  have hb := dbl_bd j a
  obtain ⟨m, hm⟩ : ∃ m, k.toNat = j + m := ⟨k.toNat - j, by omega⟩
  unfold twice; rw [hm]
  rcases h with h | h
  · rw [dbl_zero_of (j := j) (by omega)]; omega
  · rw [dbl_top_of (j := j) (by omega)]; omega
theorem twice_41 {a k : Int} (hj : (41 : Int) ≤ k) : twice a k = dbl 41 a :=
  twice_stop (by omega) (by rcases dbl_41 a with h | h <;> omega)
theorem twice_end {j : Nat} {a k : Int} (hj : (j : Int) = k ∨ (j = 0 ∧ k ≤ 0)) : twice a k = dbl j a := by
  unfold twice; congr 1; omega
theorem mul_round (A : Int) (hA : 0 ≤ A) (B m : Nat) (hc : ¬ 2 ^ m ≤ B % 2 ^ (m + 1)) :
    add (fit (A * ((B / 2 ^ (m + 1) : Nat) : Int))) (fit (A * ((B / 2 ^ (m + 1) : Nat) : Int))) = fit (A * ((B / 2 ^ m : Nat) : Int)) ∧ B % 2 ^ (m + 1) = B % 2 ^ m := by
  have hx : 0 ≤ A * ((B / 2 ^ (m + 1) : Nat) : Int) := Int.mul_nonneg hA (Int.natCast_nonneg _)
  have e1 : B / 2 ^ (m + 1) = B / 2 ^ m / 2 := by rw [Nat.pow_succ, Nat.div_div_eq_div_mul]
  have e2 : B % 2 ^ (m + 1) = B % 2 ^ m + 2 ^ m * (B / 2 ^ m % 2) := by rw [Nat.pow_succ, Nat.mod_mul]
  have e3 : B / 2 ^ m % 2 = 0 := by
    rcases Nat.mod_two_eq_zero_or_one (B / 2 ^ m) with h | h
    · exact h
    · rw [h] at e2; omega
  rw [e3] at e2
  refine ⟨?_, by omega⟩
  unfold add; rw [fit_fit, fit_add_fit hx hx, e1, ← Int.mul_add]
  congr 2; omega
theorem mul_round1 (A : Int) (hA : 0 ≤ A) (B m : Nat) (hc : 2 ^ m ≤ B % 2 ^ (m + 1)) :
    add (add (fit (A * ((B / 2 ^ (m + 1) : Nat) : Int))) (fit (A * ((B / 2 ^ (m + 1) : Nat) : Int)))) A = fit (A * ((B / 2 ^ m : Nat) : Int)) ∧ B % 2 ^ (m + 1) = B % 2 ^ m + 2 ^ m := by
  have hx : 0 ≤ A * ((B / 2 ^ (m + 1) : Nat) : Int) := Int.mul_nonneg hA (Int.natCast_nonneg _)
  have e1 : B / 2 ^ (m + 1) = B / 2 ^ m / 2 := by rw [Nat.pow_succ, Nat.div_div_eq_div_mul]
  have e2 : B % 2 ^ (m + 1) = B % 2 ^ m + 2 ^ m * (B / 2 ^ m % 2) := by rw [Nat.pow_succ, Nat.mod_mul]
  have hlt : B % 2 ^ m < 2 ^ m := Nat.mod_lt _ (Nat.two_pow_pos m)
  have e3 : B / 2 ^ m % 2 = 1 := by
    rcases Nat.mod_two_eq_zero_or_one (B / 2 ^ m) with h | h
    · rw [h] at e2; omega
    · exact h
  rw [e3] at e2
  refine ⟨?_, by omega⟩
  unfold add; rw [fit_fit, fit_fit, fit_add_fit hx hx, fit_add_fit (by omega) hA, e1, ← Int.mul_add]
  congr 1
  have : ((B / 2 ^ m : Nat) : Int) = (((B / 2 ^ m / 2 : Nat) : Int) + ((B / 2 ^ m / 2 : Nat) : Int)) + 1 := by omega
  rw [this, Int.mul_add A _ 1]; omega
theorem pow_half (m : Nat) : ((2 ^ (m + 1) / 2 : Nat) : Int) / 2 = ((2 ^ m / 2 : Nat) : Int) := by
  have : (2 : Nat) ^ (m + 1) = 2 ^ m * 2 := Nat.pow_succ ..
  omega
theorem pow_le41 {m : Nat} (h : m ≤ 40) : (2 : Nat) ^ m ≤ 1099511627776 := by
  have := Nat.pow_le_pow_right (n := 2) (by omega) h
  have e : (2 : Nat) ^ 40 = 1099511627776 := by decide
  omega
theorem mul_start (a b : Int) : fit (fit a * (((fit b).toNat / 2 ^ 41 : Nat) : Int)) = 0 ∧ (((fit b).toNat % 2 ^ 41 : Nat) : Int) = fit b := by
  have h := fit_bd b
  have e : (2 : Nat) ^ 41 = 2199023255552 := by decide
  rw [e]
  have e1 : (fit b).toNat / 2199023255552 = 0 := by omega
  rw [e1]
  exact ⟨by simp; rfl, by omega⟩
theorem mul_end (a b : Int) : fit (fit a * (((fit b).toNat / 2 ^ 0 : Nat) : Int)) = mul a b := by
  have h := fit_bd b
  have e1 : (((fit b).toNat / 2 ^ 0 : Nat) : Int) = fit b := by simp; omega
  rw [e1]; rfl
theorem add_comm' (a b : Int) : add a b = add b a := by unfold add; rw [Int.add_comm]
theorem mul_comm' (a b : Int) : mul a b = mul b a := by unfold mul; rw [Int.mul_comm]
theorem fnn (a : Int) : 0 ≤ fit a := (fit_bd a).1
theorem fit_add_l {x y : Int} (hx : 0 ≤ x) (hy : 0 ≤ y) : fit (fit x + y) = fit (x + y) := by unfold fit; repeat (first | split | omega)
theorem add_assoc' (a b c : Int) : add (add a b) c = add a (add b c) := by
  have ha := fnn a; have hb := fnn b; have hc := fnn c
  unfold add
  rw [fit_fit, fit_fit, fit_add_l (by omega) hc, Int.add_comm (fit a) (fit (fit b + fit c)), fit_add_l (by omega) ha]
  congr 1; omega
theorem mul_assoc' (a b c : Int) : mul (mul a b) c = mul a (mul b c) := by
  have ha := fnn a; have hb := fnn b; have hc := fnn c
  have h1 := Int.mul_nonneg ha hb; have h2 := Int.mul_nonneg hb hc
  unfold mul
  rw [fit_fit, fit_fit, fit_mul_fit h1 hc, Int.mul_comm (fit a) (fit (fit b * fit c)), fit_mul_fit h2 ha, Int.mul_assoc, Int.mul_comm (fit a)]
theorem mul_add' (a b c : Int) : mul a (add b c) = add (mul a b) (mul a c) := by
  have ha := fnn a; have hb := fnn b; have hc := fnn c
  unfold mul add
  rw [fit_fit, fit_fit, fit_fit, fit_add_fit (Int.mul_nonneg ha hb) (Int.mul_nonneg ha hc), Int.mul_comm (fit a) (fit (fit b + fit c)), fit_mul_fit (by omega) ha, Int.mul_comm (fit b + fit c), Int.mul_add]
theorem add_mono {a b c : Int} (h : a ≤ b) : add a c ≤ add b c := by
  have := fit_mono h; unfold add; exact fit_mono (by omega)
theorem sub_mono {a b c : Int} (h : a ≤ b) : sub a c ≤ sub b c := by
  have := fit_mono h; unfold sub; exact fit_mono (by omega)
theorem sub_anti {a b c : Int} (h : a ≤ b) : sub c b ≤ sub c a := by
  have := fit_mono h; unfold sub; exact fit_mono (by omega)
theorem mul_mono {a b c : Int} (h : a ≤ b) : mul a c ≤ mul b c := by
  have := fit_mono h; unfold mul; exact fit_mono (Int.mul_le_mul_of_nonneg_right this (fnn c))
theorem twice_mono {a b c : Int} (h : a ≤ b) : twice a c ≤ twice b c := by
  have := fit_mono h; unfold twice; rw [dbl_eq, dbl_eq]; exact fit_mono (Int.mul_le_mul_of_nonneg_right this (Int.pow_nonneg (by omega)))
theorem twice_grow {a b c : Int} (h : a ≤ b) : twice c a ≤ twice c b := by
  unfold twice; rw [dbl_eq, dbl_eq]
  have : (2 : Int) ^ a.toNat ≤ 2 ^ b.toNat := by
    have := Nat.pow_le_pow_right (n := 2) (by omega) (show a.toNat ≤ b.toNat by omega)
    exact_mod_cast this
  exact fit_mono (Int.mul_le_mul_of_nonneg_left this (fnn c))
end Go.Proofs.Ytgnjbbohphoojaa.Sat
/- Plain mathematics of points that decay. Imports nothing of the dump. -/
namespace Go.Proofs.Ytgnjbbohphoojaa.Ha
open Sat
set_option linter.unusedVariables false
/-- A score: points, and as of which tick. -/
structure Sc where
  p : Int
  a : Int
def Sc.ok (s : Sc) : Prop := (-9223372036854775808 ≤ s.p ∧ s.p ≤ 9223372036854775807) ∧ (-9223372036854775808 ≤ s.a ∧ s.a ≤ 9223372036854775807)
def lifeH (h : Int) : Int := if h < 1 then 1 else if h > 1073741824 then 1073741824 else h
theorem life_bd (h : Int) : 1 ≤ lifeH h ∧ lifeH h ≤ 1073741824 := by unfold lifeH; repeat (first | split | omega)
def wholes (s : Sc) (h now : Int) : Int := fit (fit now - fit s.a) / lifeH h
def decayS (s : Sc) (h now : Int) : Sc := ⟨fit s.p / 2 ^ (wholes s h now).toNat, fit s.a + wholes s h now * lifeH h⟩
theorem wholes_nn (s : Sc) (h now : Int) : 0 ≤ wholes s h now := Int.ediv_nonneg (fit_bd _).1 (by have := life_bd h; omega)
theorem wholes_mul (s : Sc) (h now : Int) : 0 ≤ wholes s h now * lifeH h ∧ wholes s h now * lifeH h ≤ fit (fit now - fit s.a) :=
  ⟨Int.mul_nonneg (wholes_nn s h now) (by have := life_bd h; omega), Int.ediv_mul_le _ (by have := life_bd h; omega)⟩
theorem wholes_le (s : Sc) (h now : Int) : wholes s h now ≤ 1099511627776 := by
  have := Int.ediv_le_self (lifeH h) (fit_bd (fit now - fit s.a)).1
  have := (fit_bd (fit now - fit s.a)).2
  unfold wholes; omega
theorem pow_pos' (k : Nat) : (0 : Int) < 2 ^ k := Int.pow_pos (by omega)
theorem part_bd (n : Int) (h : 0 ≤ n) (k : Nat) : 0 ≤ n / 2 ^ k ∧ n / 2 ^ k ≤ n :=
  ⟨Int.ediv_nonneg h (Int.le_of_lt (pow_pos' k)), Int.ediv_le_self _ h⟩
theorem sub_fit {m A : Int} (hA : 0 ≤ A ∧ A ≤ 1099511627776) (hm : 0 ≤ m ∧ m ≤ 1099511627776) : fit (m - A) = if m ≤ A then 0 else m - A := by
  unfold fit; repeat (first | split | omega)
theorem decay_at (s : Sc) (h now : Int) : 0 ≤ (decayS s h now).a ∧ (decayS s h now).a ≤ 1099511627776 := by
  have h1 := wholes_mul s h now
  have h2 := fit_bd s.a
  have h3 := fit_bd now
  have h4 := sub_fit h2 h3
  show 0 ≤ fit s.a + wholes s h now * lifeH h ∧ fit s.a + wholes s h now * lifeH h ≤ 1099511627776
  rw [h4] at h1
  split at h1 <;> omega
theorem decay_p (s : Sc) (h now : Int) : 0 ≤ (decayS s h now).p ∧ (decayS s h now).p ≤ 1099511627776 := by
  have h1 := part_bd (fit s.p) (fit_bd s.p).1 (wholes s h now).toNat
  have h2 := fit_bd s.p
  exact ⟨h1.1, Int.le_trans h1.2 h2.2⟩
theorem decay_ok (s : Sc) (h now : Int) : (decayS s h now).ok := by
  have h1 := decay_p s h now
  have h2 := decay_at s h now
  refine ⟨⟨?_, ?_⟩, ⟨?_, ?_⟩⟩ <;> omega
theorem div_pow (n : Int) (h : 0 ≤ n) (i j : Nat) : n / 2 ^ i / 2 ^ j = n / 2 ^ (i + j) := by
  rw [Int.ediv_ediv, if_neg (fun h => by have := pow_pos' i; omega), Int.pow_add]
  simp
/-- Halved once more. -/
theorem half_more (n : Int) (h : 0 ≤ n) (j : Nat) : n / 2 ^ j / 2 = n / 2 ^ (j + 1) := by
  have := div_pow n h j 1
  simpa using this
theorem wholes_add (s : Sc) (h lo hi : Int) (hl : lo ≤ hi) : wholes (decayS s h lo) h hi = wholes s h hi - wholes s h lo := by
  have hL := life_bd h
  have hA := fit_bd s.a
  have hlo := fit_bd lo
  have hhi := fit_bd hi
  have hm := fit_mono hl
  have hk := wholes_mul s h lo
  have e0 : fit (decayS s h lo).a = fit s.a + wholes s h lo * lifeH h := fit_of _ (decay_at s h lo).1 (decay_at s h lo).2
  have e1 : wholes (decayS s h lo) h hi = fit (fit hi - (fit s.a + wholes s h lo * lifeH h)) / lifeH h := by unfold wholes at *; rw [e0]
  rw [e1]
  rw [sub_fit hA hlo] at hk
  by_cases hc : fit lo ≤ fit s.a
  · have z : wholes s h lo = 0 := by unfold wholes; rw [sub_fit hA hlo, if_pos hc]; simp
    rw [z]; simp [wholes]
  · rw [if_neg hc] at hk
    have e2 : fit (fit hi - (fit s.a + wholes s h lo * lifeH h)) = (fit hi - fit s.a) + (- wholes s h lo) * lifeH h := by
      rw [fit_of _ (by omega) (by omega), Int.neg_mul]; omega
    have e3 : wholes s h hi = (fit hi - fit s.a) / lifeH h := by unfold wholes; rw [fit_of _ (by omega) (by omega)]
    rw [e2, Int.add_mul_ediv_right _ _ (by omega), e3]; omega
theorem wholes_mono (s : Sc) (h lo hi : Int) (hl : lo ≤ hi) : wholes s h lo ≤ wholes s h hi := by
  have h1 := wholes_add s h lo hi hl
  have h2 := wholes_nn (decayS s h lo) h hi
  omega
/-- To look in between changes nothing. -/
theorem decay_twice (s : Sc) (h lo hi : Int) (hl : lo ≤ hi) : decayS (decayS s h lo) h hi = decayS s h hi := by
  have h1 := wholes_add s h lo hi hl
  have h2 := wholes_mono s h lo hi hl
  have h3 := wholes_nn s h lo
  have e0 : fit (decayS s h lo).a = fit s.a + wholes s h lo * lifeH h := fit_of _ (decay_at s h lo).1 (decay_at s h lo).2
  have e1 : fit (decayS s h lo).p = fit s.p / 2 ^ (wholes s h lo).toNat := fit_of _ (decay_p s h lo).1 (decay_p s h lo).2
  have e2 : (wholes s h lo).toNat + (wholes s h hi - wholes s h lo).toNat = (wholes s h hi).toNat := by omega
  show Sc.mk (fit (decayS s h lo).p / 2 ^ (wholes (decayS s h lo) h hi).toNat) (fit (decayS s h lo).a + wholes (decayS s h lo) h hi * lifeH h) = Sc.mk (fit s.p / 2 ^ (wholes s h hi).toNat) (fit s.a + wholes s h hi * lifeH h)
  rw [h1, e0, e1, div_pow _ (fit_bd _).1, e2, Int.sub_mul]
  congr 1
  omega
/-- Points never grow with time. -/
theorem decay_less (s : Sc) (h lo hi : Int) (hl : lo ≤ hi) : (decayS s h hi).p ≤ (decayS s h lo).p := by
  rw [← decay_twice s h lo hi hl]
  have h1 := decay_p s h lo
  have e1 : fit (decayS s h lo).p = (decayS s h lo).p := fit_of _ h1.1 h1.2
  show fit (decayS s h lo).p / 2 ^ (wholes (decayS s h lo) h hi).toNat ≤ _
  rw [e1]
  exact (part_bd _ h1.1 _).2
/-- The half-lives, one by one: after j of them the next is still whole. -/
theorem wholes_next (s : Sc) (h now : Int) (j : Nat) (hl : lifeH h ≤ fit now - (fit s.a + j * lifeH h)) : ((j + 1 : Nat) : Int) ≤ wholes s h now := by
  have hL := life_bd h
  have hA := fit_bd s.a
  have hn := fit_bd now
  have e : ((j + 1 : Nat) : Int) * lifeH h = j * lifeH h + lifeH h := by rw [Int.natCast_add, Int.add_mul]; simp
  have hp : 0 ≤ (j : Int) * lifeH h := Int.mul_nonneg (by omega) (by omega)
  unfold wholes
  rw [Int.le_ediv_iff_mul_le (by omega), e, fit_of _ (by omega) (by omega)]
  omega
/-- No whole one is left. -/
theorem wholes_last (s : Sc) (h now : Int) (j : Nat) (hj : (j : Int) ≤ wholes s h now) (hl : ¬ lifeH h ≤ fit now - (fit s.a + j * lifeH h)) : wholes s h now = j := by
  have hL := life_bd h
  have hk := wholes_mul s h now
  have hm : wholes s h now < (j : Int) + 1 := by
    refine Int.lt_of_mul_lt_mul_right (a := lifeH h) ?_ (by omega)
    rw [Int.add_mul, Int.one_mul]
    rw [sub_fit (fit_bd _) (fit_bd _)] at hk
    have hp : 0 ≤ (j : Int) * lifeH h := Int.mul_nonneg (by omega) (by omega)
    split at hk <;> omega
  omega
/-- Where no points are left, all at once. -/
theorem wholes_rest (s : Sc) (h now : Int) (j : Nat) (hl : lifeH h ≤ fit now - (fit s.a + j * lifeH h)) : fit now - (fit now - (fit s.a + j * lifeH h)) % lifeH h = fit s.a + wholes s h now * lifeH h := by
  have hL := life_bd h
  have hA := fit_bd s.a
  have hn := fit_bd now
  have hp : 0 ≤ (j : Int) * lifeH h := Int.mul_nonneg (by omega) (by omega)
  have e : fit now - (fit s.a + j * lifeH h) = (fit now - fit s.a) + (-(j : Int)) * lifeH h := by rw [Int.neg_mul]; omega
  have e2 : fit (fit now - fit s.a) = fit now - fit s.a := fit_of _ (by omega) (by omega)
  rw [e, Int.add_mul_emod_self_right]
  unfold wholes
  rw [e2]
  rw [Int.emod_def, Int.mul_comm (lifeH h)]
  omega
theorem none_left (s : Sc) (h now : Int) (j : Nat) (hj : (j : Int) ≤ wholes s h now) (hz : fit s.p / 2 ^ j = 0) : fit s.p / 2 ^ (wholes s h now).toNat = 0 := by
  have e : (wholes s h now).toNat = j + ((wholes s h now).toNat - j) := by omega
  rw [e, ← div_pow _ (fit_bd _).1, hz]
  simp
end Go.Proofs.Ytgnjbbohphoojaa.Ha
/- Plain mathematics of scores: points more, the limit, whole points. Imports nothing of the dump. -/
namespace Go.Proofs.Ytgnjbbohphoojaa.Ha
open Sat
set_option linter.unusedVariables false
def penS (k : Int) : Int := if k = 1 then 1 else if k = 2 then 10 else if k = 3 then 20 else if k = 4 then 50 else if k = 5 then 100 else 0
def addS (s : Sc) (n h now : Int) : Sc := ⟨fit ((decayS s h now).p + fit n * 65536), (decayS s h now).a⟩
def limS (l : Int) : Int := if l < 1 then 1 else if l > 16777216 then 16777216 else l
def wholeS (s : Sc) : Int := if s.p < 0 then 0 else s.p / 65536
def overS (s : Sc) (l : Int) : Bool := decide (limS l * 65536 ≤ s.p)
theorem lim_bd (l : Int) : 1 ≤ limS l ∧ limS l ≤ 16777216 := by unfold limS; repeat (first | split | omega)
theorem over_is (s : Sc) (l : Int) : decide (limS l ≤ wholeS s) = overS s l := by
  have := lim_bd l
  unfold overS wholeS
  refine decide_eq_decide.mpr ?_
  split <;> omega
theorem add_p (s : Sc) (n h now : Int) : 0 ≤ (addS s n h now).p ∧ (addS s n h now).p ≤ 1099511627776 := fit_bd _
theorem add_at (s : Sc) (n h now : Int) : 0 ≤ (addS s n h now).a ∧ (addS s n h now).a ≤ 1099511627776 := decay_at s h now
theorem decay_still (s : Sc) (h now p : Int) (h0 : 0 ≤ p) (h1 : p ≤ 1099511627776) : decayS ⟨p, (decayS s h now).a⟩ h now = ⟨p, (decayS s h now).a⟩ := by
  have hw : wholes (decayS s h now) h now = 0 := by rw [wholes_add s h now now (Int.le_refl _)]; omega
  have hw2 : wholes ⟨p, (decayS s h now).a⟩ h now = 0 := hw
  have ha := decay_at s h now
  show Sc.mk (fit p / 2 ^ (wholes ⟨p, (decayS s h now).a⟩ h now).toNat) (fit (decayS s h now).a + wholes ⟨p, (decayS s h now).a⟩ h now * lifeH h) = _
  rw [hw2, fit_of p h0 h1, fit_of _ ha.1 ha.2]
  simp
/-- Points added at one tick count like their sum. -/
theorem add_add (s : Sc) (a b h now : Int) (ha : 0 ≤ a ∧ a ≤ 1073741824) (hb : 0 ≤ b ∧ b ≤ 1073741824) : addS (addS s a h now) b h now = addS s (a + b) h now := by
  have hd := decay_p s h now
  have e : decayS (addS s a h now) h now = addS s a h now := decay_still s h now _ (fit_bd _).1 (fit_bd _).2
  show Sc.mk (fit ((decayS (addS s a h now) h now).p + fit b * 65536)) (decayS (addS s a h now) h now).a = _
  rw [e]
  show Sc.mk (fit (fit ((decayS s h now).p + fit a * 65536) + fit b * 65536)) (decayS s h now).a = Sc.mk (fit ((decayS s h now).p + fit (a + b) * 65536)) (decayS s h now).a
  rw [fit_of a (by omega) (by omega), fit_of b (by omega) (by omega), fit_of (a + b) (by omega) (by omega), fit_add_l (by omega) (by omega)]
  congr 2
  omega
theorem add_later (s : Sc) (n h : Int) {lo hi : Int} (hl : lo ≤ hi) : (addS s n h hi).p ≤ (addS s n h lo).p :=
  fit_mono (by have := decay_less s h lo hi hl; omega)
theorem add_fewer (s : Sc) (h now : Int) {a b : Int} (hl : a ≤ b) : (addS s a h now).p ≤ (addS s b h now).p :=
  fit_mono (by have := fit_mono hl; omega)
theorem more_is (P m : Int) (hp : 0 ≤ P) (hm : 16777216 < m) : fit (P + 16777216 * 65536) = fit (P + m * 65536) := by
  rw [fit_hi _ (by omega), fit_hi _ (by omega)]
end Go.Proofs.Ytgnjbbohphoojaa.Ha
/- Contracts of package sat and of its document's answers. -/
namespace Go.Proofs.Ytgnjbbohphoojaa.Sat
set_option maxRecDepth 100000
open Go.ChangeShapes Go.WideShapes Go.ChangeAt Go.RowKit
set_option linter.unusedVariables false
theorem ret_int {k : IntKind} {a b : Int} (h : a = b) : Ending.returned (.int k a) = .returned (.int k b) := by rw [h]

end Go.Proofs.Ytgnjbbohphoojaa.Sat
