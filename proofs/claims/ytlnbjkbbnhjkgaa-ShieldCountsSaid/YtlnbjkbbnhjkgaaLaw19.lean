/- Of the statements of layer 19 (shield): quotas that come in; a number from 0 to 64; the example. -/
import Derived.Test.YtlnbjkbbnhjkgaaRef19More
import Derived.Test.YtlnbjkbbnhjkgaaLaw18
import Derived.Lib.MinMax
namespace Go.Proofs.Ytlnbjkbbnhjkgaa
set_option maxRecDepth 100000
open Go.ChangeShapes Go.WideShapes Go.ChangeAt Go.RowKit
open Dec Words V4 V6 Ad Ci En Sat Ha Pe Stb Gr Mi Ra Sh Go.Deep
set_option linter.unusedVariables false
theorem open_quota {H : Type} {enc : TypeId × Value → H} {W : World} {v : Value} {d : DataW H} {ps : List MemPlace} {r : Reach} {b0 : Nat}
    (hval : Value.okWide Try.prog W r b0 24 v) (h : DataW.Trod enc Try.prog W 0 (fun _ => true) true 24 v d ps) :
    ∃ q : Qt, q.ok ∧ v = .agg #[.int .i64 q.g, .int .i64 q.p, .int .i64 q.w, .int .i64 q.t] := by
  obtain ⟨cs, rfl, hsz⟩ := okWide_struct Try.underlying24 hval
  have hC : Try.prog.cellsOf 24 = 4 := by kernel_rfl
  obtain ⟨fuel, hf⟩ := h
  obtain ⟨l⟩ := cs
  have hl : l.length = 4 := by simpa [hC] using hsz
  match l, hl with
  | [c0, c1, c2, c3], _ =>
  obtain ⟨xs, m, _, _, _, hx, he⟩ := DataW.trod_struct Try.underlying24 hf
  have hx4 : xs.length = 4 := hx
  have k1 : Try.prog.cellsOf 3 = 1 := by kernel_rfl
  obtain ⟨y0, e0⟩ : ∃ y, xs[0]? = some y := ⟨_, List.getElem?_eq_getElem (by omega)⟩
  obtain ⟨y1, e1⟩ : ∃ y, xs[1]? = some y := ⟨_, List.getElem?_eq_getElem (by omega)⟩
  obtain ⟨y2, e2⟩ : ∃ y, xs[2]? = some y := ⟨_, List.getElem?_eq_getElem (by omega)⟩
  obtain ⟨y3, e3⟩ : ∃ y, xs[3]? = some y := ⟨_, List.getElem?_eq_getElem (by omega)⟩
  have h0 : DataW.trod enc Try.prog W 0 (fun _ => true) true m 3 (([c0, c1, c2, c3].drop 0).take (Try.prog.cellsOf 3)) = xs[0]? := he 0 _ rfl
  rw [k1, e0] at h0
  have g0 : DataW.trod enc Try.prog W 0 (fun _ => true) true m 3 [c0] = some y0 := h0
  obtain ⟨x0, j0, _, w0⟩ := DataW.trod_int Try.underlying3 g0
  have h1 : DataW.trod enc Try.prog W 0 (fun _ => true) true m 3 (([c0, c1, c2, c3].drop 1).take (Try.prog.cellsOf 3)) = xs[1]? := he 1 _ rfl
  rw [k1, e1] at h1
  have g1 : DataW.trod enc Try.prog W 0 (fun _ => true) true m 3 [c1] = some y1 := h1
  obtain ⟨x1, j1, _, w1⟩ := DataW.trod_int Try.underlying3 g1
  have h2 : DataW.trod enc Try.prog W 0 (fun _ => true) true m 3 (([c0, c1, c2, c3].drop 2).take (Try.prog.cellsOf 3)) = xs[2]? := he 2 _ rfl
  rw [k1, e2] at h2
  have g2 : DataW.trod enc Try.prog W 0 (fun _ => true) true m 3 [c2] = some y2 := h2
  obtain ⟨x2, j2, _, w2⟩ := DataW.trod_int Try.underlying3 g2
  have h3 : DataW.trod enc Try.prog W 0 (fun _ => true) true m 3 (([c0, c1, c2, c3].drop 3).take (Try.prog.cellsOf 3)) = xs[3]? := he 3 _ rfl
  rw [k1, e3] at h3
  have g3 : DataW.trod enc Try.prog W 0 (fun _ => true) true m 3 [c3] = some y3 := h3
  obtain ⟨x3, j3, _, w3⟩ := DataW.trod_int Try.underlying3 g3
  simp only [List.cons.injEq, and_true] at j0 j1 j2 j3
  subst j0 j1 j2 j3
  exact ⟨⟨x0, x1, x2, x3⟩, ⟨wf64 w0, wf64 w1, wf64 w2, wf64 w3⟩, rfl⟩
theorem few_any (n : Int) (w : World) : Calls Try.prog 15 #[.int .i64 n] w fun e w' => e = .returned (.int .i64 (fewR n)) ∧ w = w' := by
  have E : Hid (min (max n 0) 64 = fewR n) := Lib.hid rfl
  generalize fewR n = r at E ⊢
  have e := E.out
  go_enter Try.func15, Try.ntmps15
  go_wp2_with fail
  go_ret
  exact ⟨rfl, rfl⟩
theorem at19_any (p g : Int) (w : World) : Calls Try.prog 16 #[.int .i64 p, .int .i64 g] w fun e w' => e = .returned (.agg #[.bool false, .int .u64 0, .int .u64 1, .int .i64 p, .bool true, .int .i64 0, .int .i64 0, .int .i64 0, .int .i64 g, .int .i64 0]) ∧ Below w.heap.size w w' := by
  have L : Below w.heap.size w (w.alloc (.cells #[.bool false, .int .u64 0, .int .u64 1, .int .i64 p, .bool true, .int .i64 0, .int .i64 0, .int .i64 0, .int .i64 g, .int .i64 0] 42)) := (Below.refl _ _).alloc (Nat.le_refl _) _
  go_enter Try.func16, Try.ntmps16
  go_wp2_with fail
  exact bodyPost_ret (v := .agg #[.bool false, .int .u64 0, .int .u64 1, .int .i64 p, .bool true, .int .i64 0, .int .i64 0, .int .i64 0, .int .i64 g, .int .i64 0]) (by simp [results, Try.results16, go_sem]) rfl ⟨rfl, L⟩
def l19 : List Pr := [⟨⟨⟨false, 0, 1⟩, 1⟩, true, 0, ⟨0, 0⟩, 5, 0⟩, ⟨⟨⟨false, 0, 1⟩, 2⟩, true, 0, ⟨0, 0⟩, 3, 0⟩]
abbrev q19 : Qt := ⟨0, 1, 0, 0⟩
theorem l19_ok : ∀ x ∈ l19, x.ok := by
  intro x hx
  simp only [l19, List.mem_cons, List.not_mem_nil, or_false] at hx
  rcases hx with rfl | rfl <;> exact ⟨⟨⟨by decide, by decide⟩, by decide, by decide⟩, by decide, ⟨by decide, by decide⟩, by decide, by decide⟩
theorem l19_ord : ordR l19 2 7 = [1, 0] := by
  refine ordR_is (by decide +kernel) fun x => ?_
  by_cases h : x < 2
  · have : x = 0 ∨ x = 1 := by omega
    rcases this with rfl | rfl <;> decide +kernel
  · constructor
    · intro hx
      simp only [List.mem_cons, List.not_mem_nil, or_false] at hx
      omega
    · intro hx
      have : x < 2 := hx.1
      omega
theorem l19_saved : savedR l19 q19 7 4 = fun p => decide (p ∈ [1]) := by
  have h1 : savedR l19 q19 7 1 = fun _ => false := upto_zero _ _
  have h2 : savedR l19 q19 7 2 = upto (savedR l19 q19 7 1) (ordX l19 2 7 (savedR l19 q19 7 1)) 1 := rfl
  have h3 : savedR l19 q19 7 3 = savedR l19 q19 7 2 := upto_zero _ _
  have h4 : savedR l19 q19 7 4 = savedR l19 q19 7 3 := upto_zero _ _
  have ho : ordX l19 2 7 (fun _ => false) = [1, 0] := by
    unfold ordX
    rw [l19_ord]; rfl
  rw [h4, h3, h2, h1, ho]
  funext p
  unfold upto
  rw [Bool.false_or]
  rfl
theorem l19_bools : ls l19.length (savedR l19 q19 7 4) = [false, true] := by rw [l19_saved]; decide
theorem l19_left : leftR l19 q19 7 = [0] := by unfold leftR; rw [l19_saved]; decide
theorem l19_inside : insideR l19 1 q19 7 = true := by
  have h : inR l19 1 q19 7 2 = true := by decide +kernel
  unfold insideR
  rw [show insR l19 (1 : Int).toNat q19 7 = true from ins_yes (j := 1) rfl (by decide) h]
  rfl
set_option maxHeartbeats 8000000 in
theorem awake19_any (w : World) : Calls Try.prog 6 #[] w fun e w' => e = .returned (.bool true) ∧ Below w.heap.size w w' := by
  have A1 : Hid (∀ W, Calls Try.prog 16 #[.int .i64 1, .int .i64 5] W fun e w' => e = .returned (.agg #[.bool false, .int .u64 0, .int .u64 1, .int .i64 1, .bool true, .int .i64 0, .int .i64 0, .int .i64 0, .int .i64 5, .int .i64 0]) ∧ Below W.heap.size W w') := Lib.hid fun W => at19_any 1 5 W
  have A2 : Hid (∀ W, Calls Try.prog 16 #[.int .i64 2, .int .i64 3] W fun e w' => e = .returned (.agg #[.bool false, .int .u64 0, .int .u64 1, .int .i64 2, .bool true, .int .i64 0, .int .i64 0, .int .i64 0, .int .i64 3, .int .i64 0]) ∧ Below W.heap.size W w') := Lib.hid fun W => at19_any 2 3 W
  have F1 : Hid (∀ W v, Peers W v l19 → Calls Try.prog 10 #[v, .agg #[.int .i64 0, .int .i64 1, .int .i64 0, .int .i64 0], .int .u64 7] W fun e w' => ∃ u, e = .returned u ∧ BoolsI w' u [false, true] ∧ Below W.heap.size W w') := Lib.hid fun W v h => by
    have k := saved_any v l19 q19 7 W h l19_ok (by decide) (by decide)
    rwa [l19_bools] at k
  have F2 : Hid (∀ W v, Peers W v l19 → Calls Try.prog 13 #[v, .agg #[.int .i64 0, .int .i64 1, .int .i64 0, .int .i64 0], .int .u64 7] W fun e w' => ∃ u, e = .returned u ∧ NumsI w' u [0] ∧ Below W.heap.size W w') := Lib.hid fun W v h => by
    have k := left_any v l19 q19 7 W h l19_ok (by decide) (by decide)
    rwa [l19_left] at k
  have F3 : Hid (∀ W v, Peers W v l19 → Calls Try.prog 7 #[v, .int .i64 1, .agg #[.int .i64 0, .int .i64 1, .int .i64 0, .int .i64 0], .int .u64 7] W fun e w' => e = .returned (.bool true) ∧ Below W.heap.size W w') := Lib.hid fun W v h => by
    have k := inside_any v l19 1 q19 7 W h l19_ok (by decide) (by decide)
    rwa [l19_inside] at k
  go_enter Try.func6, Try.ntmps6
  go_wp2_with fail
  refine (A1.out _).mono ?_; rintro e w1 ⟨rfl, hb1⟩
  have L1 := Lib.hid hb1
  clear hb1
  go_wp2_with fail
  refine (A2.out _).mono ?_; rintro e w3 ⟨rfl, hb2⟩
  have L3 := Lib.hid (low_trans L1.out hb2)
  have L4 : Hid (Below w.heap.size w (w3.alloc (.cells #[.bool false, .int .u64 0, .int .u64 1, .int .i64 1, .bool true, .int .i64 0, .int .i64 0, .int .i64 0, .int .i64 5, .int .i64 0, .bool false, .int .u64 0, .int .u64 1, .int .i64 2, .bool true, .int .i64 0, .int .i64 0, .int .i64 0, .int .i64 3, .int .i64 0] 42))) := Lib.hid (Lows.alloc L3.out _)
  have PE0 : Hid (Peers (w3.alloc (.cells #[.bool false, .int .u64 0, .int .u64 1, .int .i64 1, .bool true, .int .i64 0, .int .i64 0, .int .i64 0, .int .i64 5, .int .i64 0, .bool false, .int .u64 0, .int .u64 1, .int .i64 2, .bool true, .int .i64 0, .int .i64 0, .int .i64 0, .int .i64 3, .int .i64 0] 42)) (.slice (some ⟨w3.heap.size, 0, none⟩) 2 2) l19) := Lib.hid (Recs.lit (k := 10) (enc := encP) (fun _ => rfl) w3 l19 #[.bool false, .int .u64 0, .int .u64 1, .int .i64 1, .bool true, .int .i64 0, .int .i64 0, .int .i64 0, .int .i64 5, .int .i64 0, .bool false, .int .u64 0, .int .u64 1, .int .i64 2, .bool true, .int .i64 0, .int .i64 0, .int .i64 0, .int .i64 3, .int .i64 0] 42 rfl)
  have FF := Lib.hid (F1.out _ _ PE0.out)
  clear hb2 L1 L3 A1 A2 F1
  go_wp2_with fail
  refine FF.out.mono ?_; rintro e w4 ⟨u, rfl, hN, hb4⟩
  have L5 := Lib.hid (low_trans L4.out hb4)
  have PE1 := Lib.hid (PE0.out.below hb4)
  have FG := Lib.hid (F2.out _ _ PE1.out)
  have HN := Lib.hid hN
  clear hb4 L4 PE0 F2 FF hN
  go_wp2_with fail
  refine FG.out.mono ?_; rintro e w5 ⟨u2, rfl, hM, hb5⟩
  have L6 := Lib.hid (low_trans L5.out hb5)
  have FI := Lib.hid (F3.out _ _ (PE1.out.below hb5))
  have hN := HN.out.below hb5
  obtain ⟨A, c, rfl, hc, _, hcell⟩ := hN
  obtain ⟨fb, fo, rfl, hfb, hcc⟩ := hcell (by decide)
  obtain ⟨A2, c2, rfl, hc2, _, hcell2⟩ := hM
  obtain ⟨gb, go, rfl, hgb, hcc2⟩ := hcell2 (by decide)
  have n0 := hcc 0 (by decide) 0 _ rfl
  have n1 := hcc 1 (by decide) 0 _ rfl
  have m0 := hcc2 0 (by decide) 0 _ rfl
  simp only [List.getElem_cons_zero, List.getElem_cons_succ, Nat.zero_mul, Nat.one_mul, Nat.add_zero] at n0 n1 m0
  have n0' : w5.cell? ⟨fb, fo, none⟩ = some (.bool false) := n0
  have n1' : w5.cell? ⟨fb, fo + 1, none⟩ = some (.bool true) := n1
  have m0' : w5.cell? ⟨gb, go, none⟩ = some (.int .i64 0) := m0
  clear hb5 L5 HN FG hcell hcell2 hcc hcc2 F3 PE1 n0 n1 m0
  go_wp2_with fail
  refine FI.out.mono ?_; rintro e w6 ⟨rfl, hb6⟩
  go_wp2_with fail
  go_ret
  exact ⟨rfl, low_trans L6.out hb6⟩
end Go.Proofs.Ytlnbjkbbnhjkgaa
