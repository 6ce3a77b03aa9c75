/- Contracts of package sat and of its document's answers. -/
import Derived.Test.YtedfkkopgcfikaaRows
import Derived.WalkKit
import Derived.ProofKit
import Derived.LoopTactic
import Derived.Lib.Hide
import Derived.Test.YtedfkkopgcfikaaSatMath
namespace Go.Proofs.Ytedfkkopgcfikaa.Sat
open Go.ChangeShapes Go.WideShapes Go.ChangeAt Go.RowKit
set_option linter.unusedVariables false
theorem ret_int {k : IntKind} {a b : Int} (h : a = b) : Ending.returned (.int k a) = .returned (.int k b) := by rw [h]

theorem fit_any (n : Int) (w : World) : Calls Try.prog 6 #[.int .i64 n] w fun e w' => e = .returned (.int .i64 (fit n)) ∧ w = w' := by
  by_cases h : n < 0 <;> by_cases h2 : n > 1099511627776
  all_goals
    go_enter Try.func6, Try.ntmps6
    go_wp2
  all_goals
    go_ret
    exact ⟨ret_int (by unfold fit; repeat (first | split | omega)), rfl⟩
theorem rfit_any (n : Int) (w : World) : Calls Try.prog 7 #[.int .i64 n] w fun e w' => e = .returned (.int .i64 (fit n)) ∧ w = w' := by
  go_enter Try.func7, Try.ntmps7
  go_wp2
  all_goals
    go_ret
    exact ⟨ret_int (by unfold fit; repeat (first | split | omega)), rfl⟩
theorem add_any (a b : Int) (w : World) : Calls Try.prog 8 #[.int .i64 a, .int .i64 b] w fun e w' => e = .returned (.int .i64 (add a b)) ∧ w = w' := by
  have ha := fit_bd a
  have hb := fit_bd b
  go_enter Try.func8, Try.ntmps8
  go_wp2_with (go_at_call 6; refine (fit_any _ _).mono ?_; rintro e w' ⟨rfl, rfl⟩)
  go_ret
  exact ⟨rfl, rfl⟩
theorem radd_any (a b : Int) (w : World) : Calls Try.prog 9 #[.int .i64 a, .int .i64 b] w fun e w' => e = .returned (.int .i64 (add a b)) ∧ w = w' := by
  have ha := fit_bd a
  have hb := fit_bd b
  go_enter Try.func9, Try.ntmps9
  go_wp2_with (go_at_call 7; refine (rfit_any _ _).mono ?_; rintro e w' ⟨rfl, rfl⟩)
  go_ret
  exact ⟨rfl, rfl⟩
theorem sub_any (a b : Int) (w : World) : Calls Try.prog 10 #[.int .i64 a, .int .i64 b] w fun e w' => e = .returned (.int .i64 (sub a b)) ∧ w = w' := by
  have ha := fit_bd a
  have hb := fit_bd b
  go_enter Try.func10, Try.ntmps10
  go_wp2_with (go_at_call 6; refine (fit_any _ _).mono ?_; rintro e w' ⟨rfl, rfl⟩)
  go_ret
  exact ⟨rfl, rfl⟩
theorem rsub_any (a b : Int) (w : World) : Calls Try.prog 11 #[.int .i64 a, .int .i64 b] w fun e w' => e = .returned (.int .i64 (sub a b)) ∧ w = w' := by
  have ha := fit_bd a
  have hb := fit_bd b
  go_enter Try.func11, Try.ntmps11
  go_wp2_with (go_at_call 7; refine (rfit_any _ _).mono ?_; rintro e w' ⟨rfl, rfl⟩)
  go_ret
  exact ⟨rfl, rfl⟩
theorem mul_any (a b : Int) (w : World) : Calls Try.prog 12 #[.int .i64 a, .int .i64 b] w fun e w' => e = .returned (.int .i64 (mul a b)) ∧ w = w' := by
  have ha := fit_bd a
  have hb := fit_bd b
  by_cases h0 : fit a > 0
  · by_cases h1 : fit b > 1099511627776 / fit a
    · go_enter Try.func12, Try.ntmps12
      go_wp2_with (go_at_call 6; refine (fit_any _ _).mono ?_; rintro e w' ⟨rfl, rfl⟩)
      go_ret
      exact ⟨ret_int (mul_big h0 h1).symm, rfl⟩
    · have h3 := mul_small h0 h1
      have h4 := h3.2
      go_enter Try.func12, Try.ntmps12
      go_wp2_with (go_at_call 6; refine (fit_any _ _).mono ?_; rintro e w' ⟨rfl, rfl⟩)
      go_ret
      exact ⟨ret_int (by unfold mul; rw [fit_of _ h3.1 h3.2]), rfl⟩
  · have h3 : fit a = 0 := by omega
    go_enter Try.func12, Try.ntmps12
    go_wp2_with (go_at_call 6; refine (fit_any _ _).mono ?_; rintro e w' ⟨rfl, rfl⟩)
    go_ret
    exact ⟨ret_int (by unfold mul; rw [h3]; simp; rfl), rfl⟩
theorem twice_any (a k : Int) (w : World) (hk : k ≤ 9223372036854775807) : Calls Try.prog 14 #[.int .i64 a, .int .i64 k] w fun e w' => e = .returned (.int .i64 (twice a k)) ∧ w = w' := by
  go_enter Try.func14, Try.ntmps14
  go_wp2_with (go_at_call 6; refine (fit_any _ _).mono ?_; rintro e w' ⟨rfl, rfl⟩)
  go_loop [5, 6] (fun n i => ∃ j : Nat, i = .int .i64 j ∧ n = .int .i64 (dbl j a) ∧ ((j : Int) ≤ k ∨ j = 0)) (fun _ i => (k - intOf i).toNat)
  case atStart => exact ⟨0, rfl, rfl, Or.inr rfl⟩
  case round =>
    obtain ⟨j, rfl, rfl, hj⟩ := hrel
    have hb := dbl_bd j a
    by_cases h1 : (j : Int) < k
    · by_cases h2 : 0 < dbl j a
      · by_cases h3 : dbl j a < 1099511627776
        · go_wp2_with (go_at_call 8; refine (add_any _ _ _).mono ?_; rintro e w' ⟨rfl, rfl⟩)
          go_round
          case rel => exact ⟨j + 1, by go_num, rfl, by omega⟩
          case measure => simp [intOf]; omega
        · go_wp2
          go_ret
          exact ⟨ret_int (twice_stop (by omega) (by omega)).symm, rfl⟩
      · go_wp2
        go_ret
        exact ⟨ret_int (twice_stop (by omega) (by omega)).symm, rfl⟩
    · go_wp2
      go_ret
      exact ⟨ret_int (twice_end (by omega)).symm, rfl⟩
theorem rtwice_any (a k : Int) (w : World) (hk : k ≤ 9223372036854775807) : Calls Try.prog 15 #[.int .i64 a, .int .i64 k] w fun e w' => e = .returned (.int .i64 (twice a k)) ∧ w = w' := by
  go_enter Try.func15, Try.ntmps15
  go_wp2_with (go_at_call 7; refine (rfit_any _ _).mono ?_; rintro e w' ⟨rfl, rfl⟩)
  go_loop [0, 5] (fun n i => ∃ j : Nat, j ≤ 41 ∧ i = .int .i64 j ∧ n = .int .i64 (dbl j a) ∧ ((j : Int) ≤ k ∨ j = 0)) (fun _ i => (41 - intOf i).toNat)
  case atStart => exact ⟨0, by omega, rfl, rfl, Or.inr rfl⟩
  case round =>
    obtain ⟨j, hj41, rfl, rfl, hj⟩ := hrel
    have hb := dbl_bd j a
    by_cases h1 : (j : Int) < k
    · by_cases h2 : j < 41
      · go_wp2_with (go_at_call 9; refine (radd_any _ _ _).mono ?_; rintro e w' ⟨rfl, rfl⟩)
        go_round
        case rel => exact ⟨j + 1, by omega, by go_num, rfl, by omega⟩
        case measure => simp [intOf]; omega
      · go_wp2
        go_ret
        exact ⟨ret_int (by have : j = 41 := by omega
                           subst this; exact (twice_41 (by omega)).symm), rfl⟩
    · go_wp2
      go_ret
      exact ⟨ret_int (twice_end (by omega)).symm, rfl⟩
theorem rmul_any (a b : Int) (w : World) : Calls Try.prog 13 #[.int .i64 a, .int .i64 b] w fun e w' => e = .returned (.int .i64 (mul a b)) ∧ w = w' := by
  have hA := fit_bd a
  have hB := fit_bd b
  have hs := mul_start a b
  go_enter Try.func13, Try.ntmps13
  go_wp2_with (go_at_call 7; refine (rfit_any _ _).mono ?_; rintro e w' ⟨rfl, rfl⟩)
  go_loop [1, 5, 6] (fun y n bit => ∃ j : Nat, j ≤ 41 ∧ bit = .int .i64 ((2 ^ j / 2 : Nat) : Int) ∧ n = .int .i64 (fit (fit a * (((fit b).toNat / 2 ^ j : Nat) : Int))) ∧ y = .int .i64 (((fit b).toNat % 2 ^ j : Nat) : Int)) (fun _ _ bit => (intOf bit).toNat)
  case atStart => exact ⟨41, by omega, rfl, by rw [hs.1], by rw [hs.2]⟩
  case round =>
    obtain ⟨j, hj41, rfl, rfl, rfl⟩ := hrel
    cases j with
    | zero =>
      go_wp2
      go_ret
      exact ⟨ret_int (by have := mul_end a b; have e : max (fit b) 0 = fit b := by omega
                         rw [e]; rfl), rfl⟩
    | succ m =>
      have hp : (2 : Nat) ^ (m + 1) / 2 = 2 ^ m := by rw [Nat.pow_succ]; omega
      have hp0 : 0 < (2 : Nat) ^ m := Nat.two_pow_pos m
      have hp1 := pow_le41 (m := m) (by omega)
      have hh := pow_half m
      have hlt : (fit b).toNat % 2 ^ (m + 1) ≤ 1099511627776 := by have := Nat.mod_le (fit b).toNat (2 ^ (m + 1)); omega
      rw [hp] at hh ⊢
      by_cases hc : 2 ^ m ≤ (fit b).toNat % 2 ^ (m + 1)
      · have hr := mul_round1 (fit a) hA.1 (fit b).toNat m hc
        obtain ⟨p, hpp⟩ : ∃ p : Nat, p = 2 ^ m := ⟨_, rfl⟩
        obtain ⟨y, hy⟩ : ∃ y : Nat, y = (fit b).toNat % 2 ^ (m + 1) := ⟨_, rfl⟩
        obtain ⟨n, hn⟩ : ∃ n : Int, n = fit (fit a * (((fit b).toNat / 2 ^ (m + 1) : Nat) : Int)) := ⟨_, rfl⟩
        rw [← hpp, ← hy] at hc hr; rw [← hn] at hr; rw [← hpp] at hp0 hp1 hh; rw [← hy] at hlt
        rw [← hy, ← hpp, ← hn]
        have H1 := Lib.hid hpp; have H2 := Lib.hid hr; have H3 := Lib.hid hh; have H4 := Lib.hid hp
        clear hpp hy hn hr hh hs hp
        go_wp2_with (go_at_call 9; refine (radd_any _ _ _).mono ?_; rintro e w' ⟨rfl, rfl⟩)
        go_round
        case rel => exact ⟨m, by omega, by rw [← H1.out, ← H3.out], by rw [← H1.out, ← H2.out.1], by rw [← H1.out]; congr 1; have := H2.out.2; omega⟩
        case measure => simp [intOf]; omega
      · have hr := mul_round (fit a) hA.1 (fit b).toNat m hc
        obtain ⟨p, hpp⟩ : ∃ p : Nat, p = 2 ^ m := ⟨_, rfl⟩
        obtain ⟨y, hy⟩ : ∃ y : Nat, y = (fit b).toNat % 2 ^ (m + 1) := ⟨_, rfl⟩
        obtain ⟨n, hn⟩ : ∃ n : Int, n = fit (fit a * (((fit b).toNat / 2 ^ (m + 1) : Nat) : Int)) := ⟨_, rfl⟩
        rw [← hpp, ← hy] at hc; rw [← hn, ← hy, ← hpp] at hr; rw [← hpp] at hp0 hp1 hh; rw [← hy] at hlt
        rw [← hy, ← hpp, ← hn]
        have H1 := Lib.hid hpp; have H2 := Lib.hid hr; have H3 := Lib.hid hh; have H4 := Lib.hid hp
        clear hpp hy hn hr hh hs hp
        go_wp2_with (go_at_call 9; refine (radd_any _ _ _).mono ?_; rintro e w' ⟨rfl, rfl⟩)
        go_round
        case rel => exact ⟨m, by omega, by rw [← H1.out, ← H3.out], by rw [← H1.out, ← H2.out.1], by rw [← H1.out]; congr 1; have := H2.out.2; omega⟩
        case measure => simp [intOf]; omega
end Go.Proofs.Ytedfkkopgcfikaa.Sat
