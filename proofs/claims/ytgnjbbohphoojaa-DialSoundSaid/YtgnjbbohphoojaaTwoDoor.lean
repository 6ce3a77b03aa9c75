/- Numbers that came in: [2]int, [3]int, a score. -/
import Derived.Test.YtgnjbbohphoojaaKit
import Derived.OpenShut
import Derived.Deep.Slices
import Derived.Lib.SmallJoins
namespace Go.Proofs.Ytgnjbbohphoojaa
set_option maxRecDepth 100000
open Go.ChangeShapes Go.WideShapes Go.ChangeAt Go.RowKit
open Go.Deep
set_option linter.unusedVariables false
section
variable {H : Type} {enc : TypeId × Value → H}
/-- A score that came in. -/
theorem open_score {W : World} {v : Value} {d : DataW H} {ps : List MemPlace} {r : Reach} {b0 : Nat}
    (hval : Value.okWide Try.prog W r b0 48 v) (h : DataW.Trod enc Try.prog W 0 (fun _ => true) true 48 v d ps) :
    ∃ i j : Int, (-9223372036854775808 ≤ i ∧ i ≤ 9223372036854775807) ∧ (-9223372036854775808 ≤ j ∧ j ≤ 9223372036854775807) ∧ v = .agg #[.int .i64 i, .int .i64 j] := by
  obtain ⟨v0, v1, y0, y1, n, rfl, rfl, rfl, g0, g1⟩ := Joins.open_agg2 Try.underlying48 (by kernel_rfl) (by kernel_rfl) hval h
  obtain ⟨x0, h0, rfl, w0⟩ := DataW.trod_int Try.underlying3 g0
  obtain ⟨x1, h1, rfl, w1⟩ := DataW.trod_int Try.underlying3 g1
  simp only [List.cons.injEq, and_true] at h0 h1
  subst h0 h1
  exact ⟨x0, x1, wf64 w0, wf64 w1, rfl⟩
end
end Go.Proofs.Ytgnjbbohphoojaa
