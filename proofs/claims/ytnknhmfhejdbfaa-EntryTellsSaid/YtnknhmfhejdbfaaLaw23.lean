/- Of the statements of layer 23 (backoff): a conf that comes in; the example. -/
import Derived.Test.YtnknhmfhejdbfaaBackoff
import Derived.Test.YtnknhmfhejdbfaaDoor
import Derived.Test.YtnknhmfhejdbfaaKit
import Derived.Test.YtnknhmfhejdbfaaTwoDoor
import Derived.Lib.MinMax
namespace Go.Proofs.Ytnknhmfhejdbfaa
set_option maxRecDepth 100000
open Go.ChangeShapes Go.WideShapes Go.ChangeAt Go.RowKit
open Sat Bk Go.Deep
set_option linter.unusedVariables false
/-- A conf that came in. -/
theorem open_conf {H : Type} {enc : TypeId × Value → H} {W : World} {v : Value} {d : DataW H} {ps : List MemPlace} {r : Reach} {b0 : Nat}
    (hval : Value.okWide Try.prog W r b0 26 v) (h : DataW.Trod enc Try.prog W 0 (fun _ => true) true 26 v d ps) :
    ∃ c : Cf, c.ok ∧ v = .agg #[.int .i64 c.mi, .int .i64 c.mo, .int .i64 c.sh, .int .i64 c.mb, .int .i64 c.bo, .int .u64 (c.s : Nat), .int .i64 c.qg, .int .i64 c.qp, .int .i64 c.qw, .int .i64 c.qt, .int .i64 c.half, .int .i64 c.lim, .int .i64 c.bf, .int .i64 c.base, .int .i64 c.cap, .int .i64 c.jit] := by
  obtain ⟨cs, rfl, hsz⟩ := okWide_struct Try.underlying26 hval
  have hC : Try.prog.cellsOf 26 = 16 := by kernel_rfl
  obtain ⟨fuel, hf⟩ := h
  obtain ⟨l⟩ := cs
  have hl : l.length = 16 := by simpa [hC] using hsz
  match l, hl with
  | [c0, c1, c2, c3, c4, c5, c6, c7, c8, c9, c10, c11, c12, c13, c14, c15], _ =>
  obtain ⟨xs, m, _, _, _, hx, he⟩ := DataW.trod_struct Try.underlying26 hf
  have hx3 : xs.length = 13 := hx
  have k1 : Try.prog.cellsOf 3 = 1 := by kernel_rfl
  have k4 : Try.prog.cellsOf 24 = 4 := by kernel_rfl
  have ku : Try.prog.cellsOf 22 = 1 := by kernel_rfl
  obtain ⟨y0, e0⟩ : ∃ y, xs[0]? = some y := ⟨_, List.getElem?_eq_getElem (by omega)⟩
  have h0 : DataW.trod enc Try.prog W 0 (fun _ => true) true m 3 (([c0, c1, c2, c3, c4, c5, c6, c7, c8, c9, c10, c11, c12, c13, c14, c15].drop 0).take (Try.prog.cellsOf 3)) = xs[0]? := he 0 _ rfl
  rw [k1, e0] at h0
  have g0 : DataW.trod enc Try.prog W 0 (fun _ => true) true m 3 [c0] = some y0 := h0
  obtain ⟨x0, j0, _, w0⟩ := DataW.trod_int Try.underlying3 g0
  obtain ⟨y1, e1⟩ : ∃ y, xs[1]? = some y := ⟨_, List.getElem?_eq_getElem (by omega)⟩
  have h1 : DataW.trod enc Try.prog W 0 (fun _ => true) true m 3 (([c0, c1, c2, c3, c4, c5, c6, c7, c8, c9, c10, c11, c12, c13, c14, c15].drop 1).take (Try.prog.cellsOf 3)) = xs[1]? := he 1 _ rfl
  rw [k1, e1] at h1
  have g1 : DataW.trod enc Try.prog W 0 (fun _ => true) true m 3 [c1] = some y1 := h1
  obtain ⟨x1, j1, _, w1⟩ := DataW.trod_int Try.underlying3 g1
  obtain ⟨y2, e2⟩ : ∃ y, xs[2]? = some y := ⟨_, List.getElem?_eq_getElem (by omega)⟩
  have h2 : DataW.trod enc Try.prog W 0 (fun _ => true) true m 3 (([c0, c1, c2, c3, c4, c5, c6, c7, c8, c9, c10, c11, c12, c13, c14, c15].drop 2).take (Try.prog.cellsOf 3)) = xs[2]? := he 2 _ rfl
  rw [k1, e2] at h2
  have g2 : DataW.trod enc Try.prog W 0 (fun _ => true) true m 3 [c2] = some y2 := h2
  obtain ⟨x2, j2, _, w2⟩ := DataW.trod_int Try.underlying3 g2
  obtain ⟨y3, e3⟩ : ∃ y, xs[3]? = some y := ⟨_, List.getElem?_eq_getElem (by omega)⟩
  have h3 : DataW.trod enc Try.prog W 0 (fun _ => true) true m 3 (([c0, c1, c2, c3, c4, c5, c6, c7, c8, c9, c10, c11, c12, c13, c14, c15].drop 3).take (Try.prog.cellsOf 3)) = xs[3]? := he 3 _ rfl
  rw [k1, e3] at h3
  have g3 : DataW.trod enc Try.prog W 0 (fun _ => true) true m 3 [c3] = some y3 := h3
  obtain ⟨x3, j3, _, w3⟩ := DataW.trod_int Try.underlying3 g3
  obtain ⟨y4, e4⟩ : ∃ y, xs[4]? = some y := ⟨_, List.getElem?_eq_getElem (by omega)⟩
  have h4 : DataW.trod enc Try.prog W 0 (fun _ => true) true m 3 (([c0, c1, c2, c3, c4, c5, c6, c7, c8, c9, c10, c11, c12, c13, c14, c15].drop 4).take (Try.prog.cellsOf 3)) = xs[4]? := he 4 _ rfl
  rw [k1, e4] at h4
  have g4 : DataW.trod enc Try.prog W 0 (fun _ => true) true m 3 [c4] = some y4 := h4
  obtain ⟨x4, j4, _, w4⟩ := DataW.trod_int Try.underlying3 g4
  obtain ⟨y5, e5⟩ : ∃ y, xs[5]? = some y := ⟨_, List.getElem?_eq_getElem (by omega)⟩
  have h5 : DataW.trod enc Try.prog W 0 (fun _ => true) true m 22 (([c0, c1, c2, c3, c4, c5, c6, c7, c8, c9, c10, c11, c12, c13, c14, c15].drop 5).take (Try.prog.cellsOf 22)) = xs[5]? := he 5 _ rfl
  rw [ku, e5] at h5
  have g5 : DataW.trod enc Try.prog W 0 (fun _ => true) true m 22 [c5] = some y5 := h5
  obtain ⟨x5, j5, _, w5⟩ := DataW.trod_int Try.underlying22 g5
  obtain ⟨y6, e6⟩ : ∃ y, xs[6]? = some y := ⟨_, List.getElem?_eq_getElem (by omega)⟩
  have h6 : DataW.trod enc Try.prog W 0 (fun _ => true) true m 24 (([c0, c1, c2, c3, c4, c5, c6, c7, c8, c9, c10, c11, c12, c13, c14, c15].drop 6).take (Try.prog.cellsOf 24)) = xs[6]? := he 6 _ rfl
  rw [k4, e6] at h6
  have g6 : DataW.trod enc Try.prog W 0 (fun _ => true) true m 24 [c6, c7, c8, c9] = some y6 := h6
  obtain ⟨y7, e7⟩ : ∃ y, xs[7]? = some y := ⟨_, List.getElem?_eq_getElem (by omega)⟩
  have h7 : DataW.trod enc Try.prog W 0 (fun _ => true) true m 3 (([c0, c1, c2, c3, c4, c5, c6, c7, c8, c9, c10, c11, c12, c13, c14, c15].drop 10).take (Try.prog.cellsOf 3)) = xs[7]? := he 7 _ rfl
  rw [k1, e7] at h7
  have g7 : DataW.trod enc Try.prog W 0 (fun _ => true) true m 3 [c10] = some y7 := h7
  obtain ⟨x10, j10, _, w10⟩ := DataW.trod_int Try.underlying3 g7
  obtain ⟨y8, e8⟩ : ∃ y, xs[8]? = some y := ⟨_, List.getElem?_eq_getElem (by omega)⟩
  have h8 : DataW.trod enc Try.prog W 0 (fun _ => true) true m 3 (([c0, c1, c2, c3, c4, c5, c6, c7, c8, c9, c10, c11, c12, c13, c14, c15].drop 11).take (Try.prog.cellsOf 3)) = xs[8]? := he 8 _ rfl
  rw [k1, e8] at h8
  have g8 : DataW.trod enc Try.prog W 0 (fun _ => true) true m 3 [c11] = some y8 := h8
  obtain ⟨x11, j11, _, w11⟩ := DataW.trod_int Try.underlying3 g8
  obtain ⟨y9, e9⟩ : ∃ y, xs[9]? = some y := ⟨_, List.getElem?_eq_getElem (by omega)⟩
  have h9 : DataW.trod enc Try.prog W 0 (fun _ => true) true m 3 (([c0, c1, c2, c3, c4, c5, c6, c7, c8, c9, c10, c11, c12, c13, c14, c15].drop 12).take (Try.prog.cellsOf 3)) = xs[9]? := he 9 _ rfl
  rw [k1, e9] at h9
  have g9 : DataW.trod enc Try.prog W 0 (fun _ => true) true m 3 [c12] = some y9 := h9
  obtain ⟨x12, j12, _, w12⟩ := DataW.trod_int Try.underlying3 g9
  obtain ⟨y10, e10⟩ : ∃ y, xs[10]? = some y := ⟨_, List.getElem?_eq_getElem (by omega)⟩
  have h10 : DataW.trod enc Try.prog W 0 (fun _ => true) true m 3 (([c0, c1, c2, c3, c4, c5, c6, c7, c8, c9, c10, c11, c12, c13, c14, c15].drop 13).take (Try.prog.cellsOf 3)) = xs[10]? := he 10 _ rfl
  rw [k1, e10] at h10
  have g10 : DataW.trod enc Try.prog W 0 (fun _ => true) true m 3 [c13] = some y10 := h10
  obtain ⟨x13, j13, _, w13⟩ := DataW.trod_int Try.underlying3 g10
  obtain ⟨y11, e11⟩ : ∃ y, xs[11]? = some y := ⟨_, List.getElem?_eq_getElem (by omega)⟩
  have h11 : DataW.trod enc Try.prog W 0 (fun _ => true) true m 3 (([c0, c1, c2, c3, c4, c5, c6, c7, c8, c9, c10, c11, c12, c13, c14, c15].drop 14).take (Try.prog.cellsOf 3)) = xs[11]? := he 11 _ rfl
  rw [k1, e11] at h11
  have g11 : DataW.trod enc Try.prog W 0 (fun _ => true) true m 3 [c14] = some y11 := h11
  obtain ⟨x14, j14, _, w14⟩ := DataW.trod_int Try.underlying3 g11
  obtain ⟨y12, e12⟩ : ∃ y, xs[12]? = some y := ⟨_, List.getElem?_eq_getElem (by omega)⟩
  have h12 : DataW.trod enc Try.prog W 0 (fun _ => true) true m 3 (([c0, c1, c2, c3, c4, c5, c6, c7, c8, c9, c10, c11, c12, c13, c14, c15].drop 15).take (Try.prog.cellsOf 3)) = xs[12]? := he 12 _ rfl
  rw [k1, e12] at h12
  have g12 : DataW.trod enc Try.prog W 0 (fun _ => true) true m 3 [c15] = some y12 := h12
  obtain ⟨x15, j15, _, w15⟩ := DataW.trod_int Try.underlying3 g12
  obtain ⟨zs, n, _, _, _, hz, hq⟩ := DataW.trod_struct Try.underlying24 g6
  have hz4 : zs.length = 4 := hz
  obtain ⟨z0, i0⟩ : ∃ y, zs[0]? = some y := ⟨_, List.getElem?_eq_getElem (by omega)⟩
  have p0 : DataW.trod enc Try.prog W 0 (fun _ => true) true n 3 (([c6, c7, c8, c9].drop 0).take (Try.prog.cellsOf 3)) = zs[0]? := hq 0 _ rfl
  rw [k1, i0] at p0
  have q0 : DataW.trod enc Try.prog W 0 (fun _ => true) true n 3 [c6] = some z0 := p0
  obtain ⟨x6, j6, _, w6⟩ := DataW.trod_int Try.underlying3 q0
  obtain ⟨z1, i1⟩ : ∃ y, zs[1]? = some y := ⟨_, List.getElem?_eq_getElem (by omega)⟩
  have p1 : DataW.trod enc Try.prog W 0 (fun _ => true) true n 3 (([c6, c7, c8, c9].drop 1).take (Try.prog.cellsOf 3)) = zs[1]? := hq 1 _ rfl
  rw [k1, i1] at p1
  have q1 : DataW.trod enc Try.prog W 0 (fun _ => true) true n 3 [c7] = some z1 := p1
  obtain ⟨x7, j7, _, w7⟩ := DataW.trod_int Try.underlying3 q1
  obtain ⟨z2, i2⟩ : ∃ y, zs[2]? = some y := ⟨_, List.getElem?_eq_getElem (by omega)⟩
  have p2 : DataW.trod enc Try.prog W 0 (fun _ => true) true n 3 (([c6, c7, c8, c9].drop 2).take (Try.prog.cellsOf 3)) = zs[2]? := hq 2 _ rfl
  rw [k1, i2] at p2
  have q2 : DataW.trod enc Try.prog W 0 (fun _ => true) true n 3 [c8] = some z2 := p2
  obtain ⟨x8, j8, _, w8⟩ := DataW.trod_int Try.underlying3 q2
  obtain ⟨z3, i3⟩ : ∃ y, zs[3]? = some y := ⟨_, List.getElem?_eq_getElem (by omega)⟩
  have p3 : DataW.trod enc Try.prog W 0 (fun _ => true) true n 3 (([c6, c7, c8, c9].drop 3).take (Try.prog.cellsOf 3)) = zs[3]? := hq 3 _ rfl
  rw [k1, i3] at p3
  have q3 : DataW.trod enc Try.prog W 0 (fun _ => true) true n 3 [c9] = some z3 := p3
  obtain ⟨x9, j9, _, w9⟩ := DataW.trod_int Try.underlying3 q3
  obtain ⟨s, rfl, hs⟩ := nat_of_u64 w5
  simp only [List.cons.injEq, and_true] at j0 j1 j2 j3 j4 j5 j6 j7 j8 j9 j10 j11 j12 j13 j14 j15
  subst j0 j1 j2 j3 j4 j5 j6 j7 j8 j9 j10 j11 j12 j13 j14 j15
  exact ⟨⟨x0, x1, x2, x3, x4, s, x6, x7, x8, x9, x10, x11, x12, x13, x14, x15⟩, ⟨wf64 w0, wf64 w1, wf64 w2, wf64 w3, wf64 w4, hs, wf64 w6, wf64 w7, wf64 w8, wf64 w9, wf64 w10, wf64 w11, wf64 w12, wf64 w13, wf64 w14, wf64 w15⟩, rfl⟩
def c23 : Cf := ⟨0, 0, 0, 0, 0, 0, 0, 0, 0, 0, 0, 0, 0, 2, 10, 3⟩
theorem c23_ok : c23.ok := by refine ⟨?_, ?_, ?_, ?_, ?_, ?_, ?_, ?_, ?_, ?_, ?_, ?_, ?_, ?_, ?_, ?_⟩ <;> (try unfold i64B) <;> decide
theorem bex1 : delayR c23 1 = 2 := by kernel_rfl
theorem bex2 : delayR c23 3 = 8 := by kernel_rfl
theorem bex3 : delayR c23 9 = 10 := by kernel_rfl
theorem bex4 : nextR c23 2 100 (-1) = 106 := by kernel_rfl
theorem dex1 (W : World) : Calls Try.prog 33 #[.agg #[.int .i64 0, .int .i64 0, .int .i64 0, .int .i64 0, .int .i64 0, .int .u64 0, .int .i64 0, .int .i64 0, .int .i64 0, .int .i64 0, .int .i64 0, .int .i64 0, .int .i64 0, .int .i64 2, .int .i64 10, .int .i64 3], .int .i64 1] W fun e w' => e = .returned (.int .i64 2) ∧ Below W.heap.size W w' := by
  have h := delay_any c23 c23_ok 1 (by decide) W
  rw [bex1] at h
  exact h
theorem dex2 (W : World) : Calls Try.prog 33 #[.agg #[.int .i64 0, .int .i64 0, .int .i64 0, .int .i64 0, .int .i64 0, .int .u64 0, .int .i64 0, .int .i64 0, .int .i64 0, .int .i64 0, .int .i64 0, .int .i64 0, .int .i64 0, .int .i64 2, .int .i64 10, .int .i64 3], .int .i64 3] W fun e w' => e = .returned (.int .i64 8) ∧ Below W.heap.size W w' := by
  have h := delay_any c23 c23_ok 3 (by decide) W
  rw [bex2] at h
  exact h
theorem dex3 (W : World) : Calls Try.prog 33 #[.agg #[.int .i64 0, .int .i64 0, .int .i64 0, .int .i64 0, .int .i64 0, .int .u64 0, .int .i64 0, .int .i64 0, .int .i64 0, .int .i64 0, .int .i64 0, .int .i64 0, .int .i64 0, .int .i64 2, .int .i64 10, .int .i64 3], .int .i64 9] W fun e w' => e = .returned (.int .i64 10) ∧ Below W.heap.size W w' := by
  have h := delay_any c23 c23_ok 9 (by decide) W
  rw [bex3] at h
  exact h
theorem dex4 (W : World) : Calls Try.prog 27 #[.agg #[.int .i64 0, .int .i64 0, .int .i64 0, .int .i64 0, .int .i64 0, .int .u64 0, .int .i64 0, .int .i64 0, .int .i64 0, .int .i64 0, .int .i64 0, .int .i64 0, .int .i64 0, .int .i64 2, .int .i64 10, .int .i64 3], .int .i64 2, .int .i64 100, .int .i64 (-1)] W fun e w' => e = .returned (.int .i64 106) ∧ Below W.heap.size W w' := by
  have h := next_any c23 c23_ok 2 100 (-1) (by decide) (by decide) W
  rw [bex4] at h
  exact h
end Go.Proofs.Ytnknhmfhejdbfaa
