/- Contracts of package sat and of its document's answers. -/
import Derived.Test.YtdlbhcakfciagaaRows
import Derived.WalkKit
import Derived.ProofKit
import Derived.LoopTactic
import Derived.Lib.Hide
import Derived.Test.YtdlbhcakfciagaaSatMath
namespace Go.Proofs.Ytdlbhcakfciagaa.Sat
set_option maxRecDepth 100000
open Go.ChangeShapes Go.WideShapes Go.ChangeAt Go.RowKit
set_option linter.unusedVariables false
theorem ret_int {k : IntKind} {a b : Int} (h : a = b) : Ending.returned (.int k a) = .returned (.int k b) := by rw [h]

theorem fit_any (n : Int) (w : World) : Calls Try.prog 22 #[.int .i64 n] w fun e w' => e = .returned (.int .i64 (fit n)) ∧ w = w' := by
  by_cases h : n < 0 <;> by_cases h2 : n > 1099511627776
  all_goals
    go_enter Try.func22, Try.ntmps22
    go_wp2
  all_goals
    go_ret
    exact ⟨ret_int (by unfold fit; repeat (first | split | omega)), rfl⟩
theorem rfit_any (n : Int) (w : World) : Calls Try.prog 23 #[.int .i64 n] w fun e w' => e = .returned (.int .i64 (fit n)) ∧ w = w' := by
  go_enter Try.func23, Try.ntmps23
  go_wp2
  all_goals
    go_ret
    exact ⟨ret_int (by unfold fit; repeat (first | split | omega)), rfl⟩
theorem sub_any (a b : Int) (w : World) : Calls Try.prog 52 #[.int .i64 a, .int .i64 b] w fun e w' => e = .returned (.int .i64 (sub a b)) ∧ w = w' := by
  have ha := fit_bd a
  have hb := fit_bd b
  go_enter Try.func52, Try.ntmps52
  go_wp2_with (go_at_call 22; refine (fit_any _ _).mono ?_; rintro e w' ⟨rfl, rfl⟩)
  go_ret
  exact ⟨rfl, rfl⟩
end Go.Proofs.Ytdlbhcakfciagaa.Sat
