/- Plain mathematics of ticks: fit, sums, products, doublings. Imports nothing of the dump. -/
import Derived.WalkKit
namespace Go.Proofs.Ythpimcnbfhogdaa.Sat
def fit (n : Int) : Int := if n < 0 then 0 else if n > 1099511627776 then 1099511627776 else n
theorem fit_bd (n : Int) : 0 ≤ fit n ∧ fit n ≤ 1099511627776 := by unfold fit; split <;> (try split) <;> omega
theorem fit_of (n : Int) (h0 : 0 ≤ n) (h1 : n ≤ 1099511627776) : fit n = n := by unfold fit; rw [if_neg (by omega), if_neg (by omega)]
theorem fit_lo (n : Int) (h : n < 0) : fit n = 0 := by unfold fit; rw [if_pos h]
theorem fit_hi (n : Int) (h : 1099511627776 ≤ n) : fit n = 1099511627776 := by
  unfold fit; rw [if_neg (by omega)]; split <;> omega
theorem fit_mono {a b : Int} (h : a ≤ b) : fit a ≤ fit b := by unfold fit; repeat (first | split | omega)
theorem fit_fit (a : Int) : fit (fit a) = fit a := fit_of _ (fit_bd a).1 (fit_bd a).2
def add (a b : Int) : Int := fit (fit a + fit b)
def sub (a b : Int) : Int := fit (fit a - fit b)
def mul (a b : Int) : Int := fit (fit a * fit b)
def dbl : Nat → Int → Int
  | 0, a => fit a
  | k + 1, a => add (dbl k a) (dbl k a)
def twice (a k : Int) : Int := dbl k.toNat a
theorem mul_big {a b : Int} (h0 : fit a > 0) (h1 : fit b > 1099511627776 / fit a) : mul a b = 1099511627776 := by
  unfold mul; apply fit_hi
  have := Int.lt_mul_of_ediv_lt h0 h1; rw [Int.mul_comm] at this
  omega
theorem mul_small {a b : Int} (h0 : fit a > 0) (h1 : ¬ fit b > 1099511627776 / fit a) : 0 ≤ fit a * fit b ∧ fit a * fit b ≤ 1099511627776 := by
  refine ⟨Int.mul_nonneg (fit_bd a).1 (fit_bd b).1, ?_⟩
  have h2 : fit b ≤ 1099511627776 / fit a := by omega
  have := Int.mul_le_of_le_ediv h0 h2
  rw [Int.mul_comm]; exact this
theorem fit_add_fit {x y : Int} (hx : 0 ≤ x) (hy : 0 ≤ y) : fit (fit x + fit y) = fit (x + y) := by
  unfold fit; repeat (first | split | omega)
theorem fit_mul_fit {x y : Int} (hx : 0 ≤ x) (hy : 0 ≤ y) : fit (fit x * y) = fit (x * y) := by
  by_cases h : x ≤ 1099511627776
  · rw [fit_of x hx h]
  · rw [fit_hi x (by omega)]
    by_cases h0 : y = 0
    · subst h0; simp
    · have h1 : 1 ≤ y := by omega
      have e1 : (1099511627776 : Int) * 1 ≤ 1099511627776 * y := Int.mul_le_mul_of_nonneg_left h1 (by omega)
      have e2 : x * 1 ≤ x * y := Int.mul_le_mul_of_nonneg_left h1 hx
      rw [fit_hi _ (by omega), fit_hi _ (by omega)]
theorem dbl_eq (k : Nat) (a : Int) : dbl k a = fit (fit a * 2 ^ k) := by
  induction k with
  | zero => simp [dbl, fit_fit]
  | succ k ih =>
    have h0 : 0 ≤ fit a * 2 ^ k := Int.mul_nonneg (fit_bd a).1 (Int.pow_nonneg (by omega))
    have e : fit a * 2 ^ (k + 1) = fit a * 2 ^ k + fit a * 2 ^ k := by rw [Int.pow_succ, ← Int.mul_assoc]; omega
    rw [dbl, ih, add, fit_fit, fit_add_fit h0 h0, e]
theorem dbl_bd (k : Nat) (a : Int) : 0 ≤ dbl k a ∧ dbl k a ≤ 1099511627776 := by rw [dbl_eq]; exact fit_bd _
theorem dbl_succ (k : Nat) (a : Int) : dbl (k + 1) a = add (dbl k a) (dbl k a) := rfl
theorem dbl_zero_of {j : Nat} {a : Int} (h : dbl j a = 0) : ∀ m, dbl (j + m) a = 0
  | 0 => h
  | m + 1 => by rw [← Nat.add_assoc, dbl_succ, dbl_zero_of h m]; rfl
theorem dbl_top_of {j : Nat} {a : Int} (h : dbl j a = 1099511627776) : ∀ m, dbl (j + m) a = 1099511627776
  | 0 => h
  | m + 1 => by rw [← Nat.add_assoc, dbl_succ, dbl_top_of h m]; rfl
theorem dbl_41 (a : Int) : dbl 41 a = 0 ∨ dbl 41 a = 1099511627776 := by
  rw [dbl_eq]
  have h := fit_bd a
  by_cases h0 : fit a = 0
  · left; rw [h0]; rfl
  · right; apply fit_hi
    have : (1 : Int) * 2 ^ 41 ≤ fit a * 2 ^ 41 := Int.mul_le_mul_of_nonneg_right (by omega) (by decide)
    have e : (1 : Int) * 2 ^ 41 = 2199023255552 := by decide
    omega
theorem twice_stop {j : Nat} {a k : Int} (hj : (j : Int) ≤ k) (h : dbl j a ≤ 0 ∨ 1099511627776 ≤ dbl j a) : twice a k = dbl j a := by
  have hb := dbl_bd j a
  obtain ⟨m, hm⟩ : ∃ m, k.toNat = j + m := ⟨k.toNat - j, by omega⟩
  unfold twice; rw [hm]
  rcases h with h | h
  · rw [dbl_zero_of (j := j) (by omega)]; omega
  · rw [dbl_top_of (j := j) (by omega)]; omega
theorem twice_41 {a k : Int} (hj : (41 : Int) ≤ k) : twice a k = dbl 41 a :=
  twice_stop (by omega) (by rcases dbl_41 a with h | h <;> omega)
theorem twice_end {j : Nat} {a k : Int} (hj : (j : Int) = k ∨ (j = 0 ∧ k ≤ 0)) : twice a k = dbl j a := by
  unfold twice; congr 1; omega
theorem mul_round (A : Int) (hA : 0 ≤ A) (B m : Nat) (hc : ¬ 2 ^ m ≤ B % 2 ^ (m + 1)) :
    add (fit (A * ((B / 2 ^ (m + 1) : Nat) : Int))) (fit (A * ((B / 2 ^ (m + 1) : Nat) : Int))) = fit (A * ((B / 2 ^ m : Nat) : Int)) ∧ B % 2 ^ (m + 1) = B % 2 ^ m := by
  have hx : 0 ≤ A * ((B / 2 ^ (m + 1) : Nat) : Int) := Int.mul_nonneg hA (Int.natCast_nonneg _)
  have e1 : B / 2 ^ (m + 1) = B / 2 ^ m / 2 := by rw [Nat.pow_succ, Nat.div_div_eq_div_mul]
  have e2 : B % 2 ^ (m + 1) = B % 2 ^ m + 2 ^ m * (B / 2 ^ m % 2) := by rw [Nat.pow_succ, Nat.mod_mul]
  have e3 : B / 2 ^ m % 2 = 0 := by
    rcases Nat.mod_two_eq_zero_or_one (B / 2 ^ m) with h | h
    · exact h
    · rw [h] at e2; omega
  rw [e3] at e2
  refine ⟨?_, by omega⟩
  unfold add; rw [fit_fit, fit_add_fit hx hx, e1, ← Int.mul_add]
  congr 2; omega
theorem mul_round1 (A : Int) (hA : 0 ≤ A) (B m : Nat) (hc : 2 ^ m ≤ B % 2 ^ (m + 1)) :
    add (add (fit (A * ((B / 2 ^ (m + 1) : Nat) : Int))) (fit (A * ((B / 2 ^ (m + 1) : Nat) : Int)))) A = fit (A * ((B / 2 ^ m : Nat) : Int)) ∧ B % 2 ^ (m + 1) = B % 2 ^ m + 2 ^ m := by
  have hx : 0 ≤ A * ((B / 2 ^ (m + 1) : Nat) : Int) := Int.mul_nonneg hA (Int.natCast_nonneg _)
  have e1 : B / 2 ^ (m + 1) = B / 2 ^ m / 2 := by rw [Nat.pow_succ, Nat.div_div_eq_div_mul]
  have e2 : B % 2 ^ (m + 1) = B % 2 ^ m + 2 ^ m * (B / 2 ^ m % 2) := by rw [Nat.pow_succ, Nat.mod_mul]
  have hlt : B % 2 ^ m < 2 ^ m := Nat.mod_lt _ (Nat.two_pow_pos m)
  have e3 : B / 2 ^ m % 2 = 1 := by
    rcases Nat.mod_two_eq_zero_or_one (B / 2 ^ m) with h | h
    · rw [h] at e2; omega
    · exact h
  rw [e3] at e2
  refine ⟨?_, by omega⟩
  unfold add; rw [fit_fit, fit_fit, fit_add_fit hx hx, fit_add_fit (by omega) hA, e1, ← Int.mul_add]
  congr 1
  have : ((B / 2 ^ m : Nat) : Int) = (((B / 2 ^ m / 2 : Nat) : Int) + ((B / 2 ^ m / 2 : Nat) : Int)) + 1 := by omega
  rw [this, Int.mul_add A _ 1]; omega
theorem pow_half (m : Nat) : ((2 ^ (m + 1) / 2 : Nat) : Int) / 2 = ((2 ^ m / 2 : Nat) : Int) := by
  have : (2 : Nat) ^ (m + 1) = 2 ^ m * 2 := Nat.pow_succ ..
  omega
theorem pow_le41 {m : Nat} (h : m ≤ 40) : (2 : Nat) ^ m ≤ 1099511627776 := by
  have := Nat.pow_le_pow_right (n := 2) (by omega) h
  have e : (2 : Nat) ^ 40 = 1099511627776 := by decide
  omega
theorem mul_start (a b : Int) : fit (fit a * (((fit b).toNat / 2 ^ 41 : Nat) : Int)) = 0 ∧ (((fit b).toNat % 2 ^ 41 : Nat) : Int) = fit b := by
  have h := fit_bd b
  have e : (2 : Nat) ^ 41 = 2199023255552 := by decide
  rw [e]
  have e1 : (fit b).toNat / 2199023255552 = 0 := by omega
  rw [e1]
  exact ⟨by simp; rfl, by omega⟩
theorem mul_end (a b : Int) : fit (fit a * (((fit b).toNat / 2 ^ 0 : Nat) : Int)) = mul a b := by
  have h := fit_bd b
  have e1 : (((fit b).toNat / 2 ^ 0 : Nat) : Int) = fit b := by simp; omega
  rw [e1]; rfl
theorem add_comm' (a b : Int) : add a b = add b a := by unfold add; rw [Int.add_comm]
theorem mul_comm' (a b : Int) : mul a b = mul b a := by unfold mul; rw [Int.mul_comm]
theorem fnn (a : Int) : 0 ≤ fit a := (fit_bd a).1
theorem fit_add_l {x y : Int} (hx : 0 ≤ x) (hy : 0 ≤ y) : fit (fit x + y) = fit (x + y) := by unfold fit; repeat (first | split | omega)
theorem add_assoc' (a b c : Int) : add (add a b) c = add a (add b c) := by
  have ha := fnn a; have hb := fnn b; have hc := fnn c
  unfold add
  rw [fit_fit, fit_fit, fit_add_l (by omega) hc, Int.add_comm (fit a) (fit (fit b + fit c)), fit_add_l (by omega) ha]
  congr 1; omega
theorem mul_assoc' (a b c : Int) : mul (mul a b) c = mul a (mul b c) := by
  have ha := fnn a; have hb := fnn b; have hc := fnn c
  have h1 := Int.mul_nonneg ha hb; have h2 := Int.mul_nonneg hb hc
  unfold mul
  rw [fit_fit, fit_fit, fit_mul_fit h1 hc, Int.mul_comm (fit a) (fit (fit b * fit c)), fit_mul_fit h2 ha, Int.mul_assoc, Int.mul_comm (fit a)]
theorem mul_add' (a b c : Int) : mul a (add b c) = add (mul a b) (mul a c) := by
  have ha := fnn a; have hb := fnn b; have hc := fnn c
  unfold mul add
  rw [fit_fit, fit_fit, fit_fit, fit_add_fit (Int.mul_nonneg ha hb) (Int.mul_nonneg ha hc), Int.mul_comm (fit a) (fit (fit b + fit c)), fit_mul_fit (by omega) ha, Int.mul_comm (fit b + fit c), Int.mul_add]
theorem add_mono {a b c : Int} (h : a ≤ b) : add a c ≤ add b c := by
  have := fit_mono h; unfold add; exact fit_mono (by omega)
theorem sub_mono {a b c : Int} (h : a ≤ b) : sub a c ≤ sub b c := by
  have := fit_mono h; unfold sub; exact fit_mono (by omega)
theorem sub_anti {a b c : Int} (h : a ≤ b) : sub c b ≤ sub c a := by
  have := fit_mono h; unfold sub; exact fit_mono (by omega)
theorem mul_mono {a b c : Int} (h : a ≤ b) : mul a c ≤ mul b c := by
  have := fit_mono h; unfold mul; exact fit_mono (Int.mul_le_mul_of_nonneg_right this (fnn c))
theorem twice_mono {a b c : Int} (h : a ≤ b) : twice a c ≤ twice b c := by
  have := fit_mono h; unfold twice; rw [dbl_eq, dbl_eq]; exact fit_mono (Int.mul_le_mul_of_nonneg_right this (Int.pow_nonneg (by omega)))
theorem twice_grow {a b c : Int} (h : a ≤ b) : twice c a ≤ twice c b := by
  unfold twice; rw [dbl_eq, dbl_eq]
  have : (2 : Int) ^ a.toNat ≤ 2 ^ b.toNat := by
    have := Nat.pow_le_pow_right (n := 2) (by omega) (show a.toNat ≤ b.toNat by omega)
    exact_mod_cast this
  exact fit_mono (Int.mul_le_mul_of_nonneg_left this (fnn c))
end Go.Proofs.Ythpimcnbfhogdaa.Sat
