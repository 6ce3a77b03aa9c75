/- Contracts of package sat and of its document's answers. -/
import Derived.Test.YtnknhmfhejdbfaaRows
import Derived.WalkKit
import Derived.ProofKit
import Derived.LoopTactic
import Derived.Lib.Hide
import Derived.Test.YtnknhmfhejdbfaaSatMath
namespace Go.Proofs.Ytnknhmfhejdbfaa.Sat
set_option maxRecDepth 100000
open Go.ChangeShapes Go.WideShapes Go.ChangeAt Go.RowKit
set_option linter.unusedVariables false
theorem ret_int {k : IntKind} {a b : Int} (h : a = b) : Ending.returned (.int k a) = .returned (.int k b) := by rw [h]

theorem fit_any (n : Int) (w : World) : Calls Try.prog 25 #[.int .i64 n] w fun e w' => e = .returned (.int .i64 (fit n)) ∧ w = w' := by
  by_cases h : n < 0 <;> by_cases h2 : n > 1099511627776
  all_goals
    go_enter Try.func25, Try.ntmps25
    go_wp2
  all_goals
    go_ret
    exact ⟨ret_int (by unfold fit; repeat (first | split | omega)), rfl⟩
theorem rfit_any (n : Int) (w : World) : Calls Try.prog 26 #[.int .i64 n] w fun e w' => e = .returned (.int .i64 (fit n)) ∧ w = w' := by
  go_enter Try.func26, Try.ntmps26
  go_wp2
  all_goals
    go_ret
    exact ⟨ret_int (by unfold fit; repeat (first | split | omega)), rfl⟩
theorem add_any (a b : Int) (w : World) : Calls Try.prog 32 #[.int .i64 a, .int .i64 b] w fun e w' => e = .returned (.int .i64 (add a b)) ∧ w = w' := by
  have ha := fit_bd a
  have hb := fit_bd b
  go_enter Try.func32, Try.ntmps32
  go_wp2_with (go_at_call 25; refine (fit_any _ _).mono ?_; rintro e w' ⟨rfl, rfl⟩)
  go_ret
  exact ⟨rfl, rfl⟩
theorem radd_any (a b : Int) (w : World) : Calls Try.prog 19 #[.int .i64 a, .int .i64 b] w fun e w' => e = .returned (.int .i64 (add a b)) ∧ w = w' := by
  have ha := fit_bd a
  have hb := fit_bd b
  go_enter Try.func19, Try.ntmps19
  go_wp2_with (go_at_call 26; refine (rfit_any _ _).mono ?_; rintro e w' ⟨rfl, rfl⟩)
  go_ret
  exact ⟨rfl, rfl⟩
theorem twice_any (a k : Int) (w : World) (hk : k ≤ 9223372036854775807) : Calls Try.prog 37 #[.int .i64 a, .int .i64 k] w fun e w' => e = .returned (.int .i64 (twice a k)) ∧ w = w' := by
  go_enter Try.func37, Try.ntmps37
  go_wp2_with (go_at_call 25; refine (fit_any _ _).mono ?_; rintro e w' ⟨rfl, rfl⟩)
  go_loop [5, 6] (fun n i => ∃ j : Nat, i = .int .i64 j ∧ n = .int .i64 (dbl j a) ∧ ((j : Int) ≤ k ∨ j = 0)) (fun _ i => (k - intOf i).toNat)
  case atStart => exact ⟨0, rfl, rfl, Or.inr rfl⟩
  case round =>
    obtain ⟨j, rfl, rfl, hj⟩ := hrel
    have hb := dbl_bd j a
    by_cases h1 : (j : Int) < k
    · by_cases h2 : 0 < dbl j a
      · by_cases h3 : dbl j a < 1099511627776
        · go_wp2_with (go_at_call 32; refine (add_any _ _ _).mono ?_; rintro e w' ⟨rfl, rfl⟩)
          go_round
          case rel => exact ⟨j + 1, by go_num, rfl, by omega⟩
          case measure => simp [intOf]; omega
        · go_wp2
          go_ret
          exact ⟨ret_int (twice_stop (by omega) (by omega)).symm, rfl⟩
      · go_wp2
        go_ret
        exact ⟨ret_int (twice_stop (by omega) (by omega)).symm, rfl⟩
    · go_wp2
      go_ret
      exact ⟨ret_int (twice_end (by omega)).symm, rfl⟩
theorem rtwice_any (a k : Int) (w : World) (hk : k ≤ 9223372036854775807) : Calls Try.prog 29 #[.int .i64 a, .int .i64 k] w fun e w' => e = .returned (.int .i64 (twice a k)) ∧ w = w' := by
  go_enter Try.func29, Try.ntmps29
  go_wp2_with (go_at_call 26; refine (rfit_any _ _).mono ?_; rintro e w' ⟨rfl, rfl⟩)
  go_loop [0, 5] (fun n i => ∃ j : Nat, j ≤ 41 ∧ i = .int .i64 j ∧ n = .int .i64 (dbl j a) ∧ ((j : Int) ≤ k ∨ j = 0)) (fun _ i => (41 - intOf i).toNat)
  case atStart => exact ⟨0, by omega, rfl, rfl, Or.inr rfl⟩
  case round =>
    obtain ⟨j, hj41, rfl, rfl, hj⟩ := hrel
    have hb := dbl_bd j a
    by_cases h1 : (j : Int) < k
    · by_cases h2 : j < 41
      · go_wp2_with (go_at_call 19; refine (radd_any _ _ _).mono ?_; rintro e w' ⟨rfl, rfl⟩)
        go_round
        case rel => exact ⟨j + 1, by omega, by go_num, rfl, by omega⟩
        case measure => simp [intOf]; omega
      · go_wp2
        go_ret
        exact ⟨ret_int (by have : j = 41 := by omega
                           subst this; exact (twice_41 (by omega)).symm), rfl⟩
    · go_wp2
      go_ret
      exact ⟨ret_int (twice_end (by omega)).symm, rfl⟩
end Go.Proofs.Ytnknhmfhejdbfaa.Sat
