/- Of the statements of layer 19 (shield): quotas that come in; a number from 0 to 64; the example. -/
import Derived.Test.YthmcggbmeabpmaaRef19All
import Derived.Test.YthmcggbmeabpmaaLaw18
import Derived.Lib.MinMax
namespace Go.Proofs.Ythmcggbmeabpmaa
set_option maxRecDepth 100000
open Go.ChangeShapes Go.WideShapes Go.ChangeAt Go.RowKit
open Dec Words V4 V6 Ad Ci En Sat Ha Pe Stb Gr Mi Ra Sh Go.Deep
set_option linter.unusedVariables false
theorem open_quota {H : Type} {enc : TypeId × Value → H} {W : World} {v : Value} {d : DataW H} {ps : List MemPlace} {r : Reach} {b0 : Nat}
    (hval : Value.okWide Try.prog W r b0 24 v) (h : DataW.Trod enc Try.prog W 0 (fun _ => true) true 24 v d ps) :
    ∃ q : Qt, q.ok ∧ v = .agg #[.int .i64 q.g, .int .i64 q.p, .int .i64 q.w, .int .i64 q.t] := by
  obtain ⟨cs, rfl, hsz⟩ := okWide_struct Try.underlying24 hval
  have hC : Try.prog.cellsOf 24 = 4 := by kernel_rfl
  obtain ⟨fuel, hf⟩ := h
  obtain ⟨l⟩ := cs
  have hl : l.length = 4 := by simpa [hC] using hsz
  match l, hl with
  | [c0, c1, c2, c3], _ =>
  obtain ⟨xs, m, _, _, _, hx, he⟩ := DataW.trod_struct Try.underlying24 hf
  have hx4 : xs.length = 4 := hx
  have k1 : Try.prog.cellsOf 3 = 1 := by kernel_rfl
  obtain ⟨y0, e0⟩ : ∃ y, xs[0]? = some y := ⟨_, List.getElem?_eq_getElem (by omega)⟩
  obtain ⟨y1, e1⟩ : ∃ y, xs[1]? = some y := ⟨_, List.getElem?_eq_getElem (by omega)⟩
  obtain ⟨y2, e2⟩ : ∃ y, xs[2]? = some y := ⟨_, List.getElem?_eq_getElem (by omega)⟩
  obtain ⟨y3, e3⟩ : ∃ y, xs[3]? = some y := ⟨_, List.getElem?_eq_getElem (by omega)⟩
  have h0 : DataW.trod enc Try.prog W 0 (fun _ => true) true m 3 (([c0, c1, c2, c3].drop 0).take (Try.prog.cellsOf 3)) = xs[0]? := he 0 _ rfl
  rw [k1, e0] at h0
  have g0 : DataW.trod enc Try.prog W 0 (fun _ => true) true m 3 [c0] = some y0 := h0
  obtain ⟨x0, j0, _, w0⟩ := DataW.trod_int Try.underlying3 g0
  have h1 : DataW.trod enc Try.prog W 0 (fun _ => true) true m 3 (([c0, c1, c2, c3].drop 1).take (Try.prog.cellsOf 3)) = xs[1]? := he 1 _ rfl
  rw [k1, e1] at h1
  have g1 : DataW.trod enc Try.prog W 0 (fun _ => true) true m 3 [c1] = some y1 := h1
  obtain ⟨x1, j1, _, w1⟩ := DataW.trod_int Try.underlying3 g1
  have h2 : DataW.trod enc Try.prog W 0 (fun _ => true) true m 3 (([c0, c1, c2, c3].drop 2).take (Try.prog.cellsOf 3)) = xs[2]? := he 2 _ rfl
  rw [k1, e2] at h2
  have g2 : DataW.trod enc Try.prog W 0 (fun _ => true) true m 3 [c2] = some y2 := h2
  obtain ⟨x2, j2, _, w2⟩ := DataW.trod_int Try.underlying3 g2
  have h3 : DataW.trod enc Try.prog W 0 (fun _ => true) true m 3 (([c0, c1, c2, c3].drop 3).take (Try.prog.cellsOf 3)) = xs[3]? := he 3 _ rfl
  rw [k1, e3] at h3
  have g3 : DataW.trod enc Try.prog W 0 (fun _ => true) true m 3 [c3] = some y3 := h3
  obtain ⟨x3, j3, _, w3⟩ := DataW.trod_int Try.underlying3 g3
  simp only [List.cons.injEq, and_true] at j0 j1 j2 j3
  subst j0 j1 j2 j3
  exact ⟨⟨x0, x1, x2, x3⟩, ⟨wf64 w0, wf64 w1, wf64 w2, wf64 w3⟩, rfl⟩
def l19 : List Pr := [⟨⟨⟨false, 0, 1⟩, 1⟩, true, 0, ⟨0, 0⟩, 5, 0⟩, ⟨⟨⟨false, 0, 1⟩, 2⟩, true, 0, ⟨0, 0⟩, 3, 0⟩]
abbrev q19 : Qt := ⟨0, 1, 0, 0⟩
theorem l19_ok : ∀ x ∈ l19, x.ok := by
  intro x hx
  simp only [l19, List.mem_cons, List.not_mem_nil, or_false] at hx
  rcases hx with rfl | rfl <;> exact ⟨⟨⟨by decide, by decide⟩, by decide, by decide⟩, by decide, ⟨by decide, by decide⟩, by decide, by decide⟩
theorem l19_ord : ordR l19 2 7 = [1, 0] := by
  refine ordR_is (by decide +kernel) fun x => ?_
  by_cases h : x < 2
  · have : x = 0 ∨ x = 1 := by omega
    rcases this with rfl | rfl <;> decide +kernel
  · constructor
    · intro hx
      simp only [List.mem_cons, List.not_mem_nil, or_false] at hx
      omega
    · intro hx
      have : x < 2 := hx.1
      omega
theorem l19_saved : savedR l19 q19 7 4 = fun p => decide (p ∈ [1]) := by
  have h1 : savedR l19 q19 7 1 = fun _ => false := upto_zero _ _
  have h2 : savedR l19 q19 7 2 = upto (savedR l19 q19 7 1) (ordX l19 2 7 (savedR l19 q19 7 1)) 1 := rfl
  have h3 : savedR l19 q19 7 3 = savedR l19 q19 7 2 := upto_zero _ _
  have h4 : savedR l19 q19 7 4 = savedR l19 q19 7 3 := upto_zero _ _
  have ho : ordX l19 2 7 (fun _ => false) = [1, 0] := by
    unfold ordX
    rw [l19_ord]; rfl
  rw [h4, h3, h2, h1, ho]
  funext p
  unfold upto
  rw [Bool.false_or]
  rfl
theorem l19_bools : ls l19.length (savedR l19 q19 7 4) = [false, true] := by rw [l19_saved]; decide
theorem l19_left : leftR l19 q19 7 = [0] := by unfold leftR; rw [l19_saved]; decide
theorem l19_inside : insideR l19 1 q19 7 = true := by
  have h : inR l19 1 q19 7 2 = true := by decide +kernel
  unfold insideR
  rw [show insR l19 (1 : Int).toNat q19 7 = true from ins_yes (j := 1) rfl (by decide) h]
  rfl
end Go.Proofs.Ythmcggbmeabpmaa
