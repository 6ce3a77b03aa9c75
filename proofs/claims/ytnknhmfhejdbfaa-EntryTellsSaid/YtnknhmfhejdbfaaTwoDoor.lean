/- Numbers that came in: [2]int, [3]int, a score. -/
import Derived.Test.YtnknhmfhejdbfaaKit
import Derived.OpenShut
import Derived.Deep.Slices
import Derived.Lib.SmallJoins
namespace Go.Proofs.Ytnknhmfhejdbfaa
set_option maxRecDepth 100000
open Go.ChangeShapes Go.WideShapes Go.ChangeAt Go.RowKit
open Go.Deep
set_option linter.unusedVariables false
/-- Two numbers, as they come in. -/
theorem open_two {H : Type} {enc : TypeId × Value → H} {W : World} {v : Value} {d : DataW H} {ps : List MemPlace} {r : Reach} {b0 : Nat}
    (hval : Value.okWide Try.prog W r b0 33 v) (h : DataW.Trod enc Try.prog W 0 (fun _ => true) true 33 v d ps) : ∃ i j : Int, (-9223372036854775808 ≤ i ∧ i ≤ 9223372036854775807) ∧ (-9223372036854775808 ≤ j ∧ j ≤ 9223372036854775807) ∧ v = .agg #[.int .i64 i, .int .i64 j] := by
  obtain ⟨cs, rfl, hsz, _⟩ : ∃ cs, v = .agg cs ∧ cs.size = Try.prog.cellsOf 33 ∧ Row.okWide Try.prog W r b0 33 cs := by
    simpa [Value.okWide, Try.underlying33] using hval
  have hC : Try.prog.cellsOf 33 = 2 := by kernel_rfl
  have k1 : Try.prog.cellsOf 3 = 1 := by kernel_rfl
  obtain ⟨fuel, hf⟩ := h
  have hcs : (Value.agg cs).cells.toList = cs.toList := rfl
  obtain ⟨l⟩ := cs
  have hl : l.length = 2 := by simpa [hC] using hsz
  match l, hl with
  | [c0, c1], _ =>
  obtain ⟨xs, m, _, _, _, hx, he⟩ := DataW.trod_array Try.underlying33 hf
  have a0 := he 0 (by decide)
  have a1 := he 1 (by decide)
  rw [k1] at a0 a1
  obtain ⟨x0, hx0⟩ : ∃ y, xs[0]? = some y := ⟨_, List.getElem?_eq_getElem (by omega)⟩
  obtain ⟨x1, hx1⟩ : ∃ y, xs[1]? = some y := ⟨_, List.getElem?_eq_getElem (by omega)⟩
  rw [hx0] at a0
  rw [hx1] at a1
  have g0 : DataW.trod enc Try.prog W 0 (fun _ => true) true m 3 [c0] = some x0 := a0
  have g1 : DataW.trod enc Try.prog W 0 (fun _ => true) true m 3 [c1] = some x1 := a1
  obtain ⟨i, j0, _, w0⟩ := DataW.trod_int Try.underlying3 g0
  obtain ⟨j, j1, _, w1⟩ := DataW.trod_int Try.underlying3 g1
  simp only [List.cons.injEq, and_true] at j0 j1
  subst j0 j1
  exact ⟨i, j, wf64 w0, wf64 w1, rfl⟩
section
variable {H : Type} {enc : TypeId × Value → H}
end
end Go.Proofs.Ytnknhmfhejdbfaa
