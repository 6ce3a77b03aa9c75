/- Of the statements of layer 25 (entry): acts that came in; the example. -/
import Derived.Test.YtnknhmfhejdbfaaEntryDoor
import Derived.Test.YtnknhmfhejdbfaaTwoDoor
import Derived.Test.YtnknhmfhejdbfaaLaw23
import Derived.Lib.MinMax
import Derived.Deep.RegionHeld3
import Derived.Deep.DeepCutAuto
namespace Go.Proofs.Ytnknhmfhejdbfaa
set_option maxRecDepth 100000
open Go.ChangeShapes Go.WideShapes Go.ChangeAt Go.RowKit
open Ad Ci En Sat Bk Et Go.Deep
set_option linter.unusedVariables false
structure Act25 where
  kind : Int
  n : Int
  j : Int
structure Act25.ok (x : Act25) : Prop where
  hk : i64B x.kind
  hn : i64B x.n
  hj : i64B x.j
def enc25 (x : Act25) : List Value := [.int .i64 x.kind, .int .i64 x.n, .int .i64 x.j]
instance : Inhabited Act25 := ⟨⟨0, 0, 0⟩⟩
abbrev Acts25 (w : World) (v : Value) (l : List Act25) : Prop := Recs 3 enc25 w v l
theorem act25_cells {H : Type} {enc : TypeId × Value → H} {W : World} {fuel : Nat} {cs : List Value} {y : DataW H × List MemPlace}
    (hf : DataW.trod enc Try.prog W 0 (fun _ => true) true fuel 44 cs = some y) (hl : cs.length = 3) : ∃ x : Act25, cs = enc25 x ∧ x.ok := by
  match cs, hl with
  | [c0, c1, c2], _ =>
  obtain ⟨y0, y1, y2, m, _, _, h0, h1, h2⟩ := trod_struct3 Try.underlying44 hf
  have k1 : Try.prog.cellsOf 3 = 1 := by kernel_rfl
  have h0' : DataW.trod enc Try.prog W 0 (fun _ => true) true m 3 (([c0, c1, c2].drop 0).take (Try.prog.cellsOf 3)) = some y0 := h0
  rw [k1] at h0'
  have g0 : DataW.trod enc Try.prog W 0 (fun _ => true) true m 3 [c0] = some y0 := h0'
  obtain ⟨x0, j0, _, w0⟩ := DataW.trod_int Try.underlying3 g0
  have h1' : DataW.trod enc Try.prog W 0 (fun _ => true) true m 3 (([c0, c1, c2].drop 1).take (Try.prog.cellsOf 3)) = some y1 := h1
  rw [k1] at h1'
  have g1 : DataW.trod enc Try.prog W 0 (fun _ => true) true m 3 [c1] = some y1 := h1'
  obtain ⟨x1, j1, _, w1⟩ := DataW.trod_int Try.underlying3 g1
  have h2' : DataW.trod enc Try.prog W 0 (fun _ => true) true m 3 (([c0, c1, c2].drop 2).take (Try.prog.cellsOf 3)) = some y2 := h2
  rw [k1] at h2'
  have g2 : DataW.trod enc Try.prog W 0 (fun _ => true) true m 3 [c2] = some y2 := h2'
  obtain ⟨x2, j2, _, w2⟩ := DataW.trod_int Try.underlying3 g2
  simp only [List.cons.injEq, and_true] at j0 j1 j2
  subst j0 j1 j2
  exact ⟨⟨x0, x1, x2⟩, rfl, wf64 w0, wf64 w1, wf64 w2⟩
theorem open_acts25 {H : Type} {enc : TypeId × Value → H} {W : World} {v : Value} {d : DataW H} {ps : List MemPlace} {r : Reach} {b0 : Nat}
    (hval : Value.okWide Try.prog W r b0 42 v) (h : DataW.Trod enc Try.prog W 0 (fun _ => true) true 42 v d ps) : ∃ xs : List Act25, Acts25 W v xs ∧ xs.length ≤ 9223372036854775807 ∧ ∀ x ∈ xs, x.ok :=
  open_recs (encR := enc25) (good := Act25.ok) Try.underlying42 (by kernel_rfl) (by decide) (fun _ _ _ hf hl => act25_cells hf hl) hval h
def c25 : Cf := ⟨0, 0, 0, 0, 0, 0, 0, 0, 0, 0, 0, 0, 0, 2, 100, 0⟩
theorem c25_ok : c25.ok := by refine ⟨?_, ?_, ?_, ?_, ?_, ?_, ?_, ?_, ?_, ?_, ?_, ?_, ?_, ?_, ?_, ?_⟩ <;> (try unfold i64B) <;> decide
abbrev S25 (n0 n1 : Nat) (W0 : World) (w' : World) : Prop := w'.cell? ⟨n0, 0, none⟩ = some (.int .i64 0) ∧ w'.cell? ⟨n0, 1, none⟩ = some (.int .i64 0) ∧ w'.cell? ⟨n0, 2, none⟩ = some (.int .i64 0) ∧ w'.cell? ⟨n0, 3, none⟩ = some (.int .i64 0) ∧ w'.cell? ⟨n0, 4, none⟩ = some (.int .i64 0) ∧ w'.cell? ⟨n0, 5, none⟩ = some (.int .u64 0) ∧ w'.cell? ⟨n0, 6, none⟩ = some (.int .i64 0) ∧ w'.cell? ⟨n0, 7, none⟩ = some (.int .i64 0) ∧ w'.cell? ⟨n0, 8, none⟩ = some (.int .i64 0) ∧ w'.cell? ⟨n0, 9, none⟩ = some (.int .i64 0) ∧ w'.cell? ⟨n0, 10, none⟩ = some (.int .i64 0) ∧ w'.cell? ⟨n0, 11, none⟩ = some (.int .i64 0) ∧ w'.cell? ⟨n0, 12, none⟩ = some (.int .i64 0) ∧ w'.cell? ⟨n0, 13, none⟩ = some (.int .i64 2) ∧ w'.cell? ⟨n0, 14, none⟩ = some (.int .i64 100) ∧ w'.cell? ⟨n0, 15, none⟩ = some (.int .i64 0) ∧ w'.cell? ⟨n1, 0, none⟩ = some (.bool false) ∧ w'.cell? ⟨n1, 1, none⟩ = some (.int .u64 0) ∧ w'.cell? ⟨n1, 2, none⟩ = some (.int .u64 1) ∧ w'.cell? ⟨n1, 3, none⟩ = some (.int .i64 80) ∧ w'.cell? ⟨n1, 4, none⟩ = some (.int .i64 1) ∧ w'.cell? ⟨n1, 5, none⟩ = some (.int .i64 0) ∧ w'.cell? ⟨n1, 6, none⟩ = some (.int .i64 5) ∧ Lows W0 w'
set_option maxHeartbeats 8000000 in
theorem awake25_any (w : World) : Calls Try.prog 18 #[] w fun e w' => e = .returned (.bool true) ∧ Below w.heap.size w w' := by
  have N1 : Hid (∀ W, Calls Try.prog 7 #[.agg #[.bool false, .int .u64 0, .int .u64 1, .int .i64 80], .int .i64 5] W fun e w' => e = .returned (.agg #[.bool false, .int .u64 0, .int .u64 1, .int .i64 80, .int .i64 1, .int .i64 0, .int .i64 5]) ∧ Below W.heap.size W w') := Lib.hid fun W => by have k := newY_any ⟨⟨false, 0, 1⟩, 80⟩ 5 W; rwa [show newY ⟨⟨false, 0, 1⟩, 80⟩ 5 = (⟨⟨⟨false, 0, 1⟩, 80⟩, 1, 0, 5⟩ : Ey) from by kernel_rfl] at k
  have F1 : Hid (∀ W, Calls Try.prog 11 #[.agg #[.bool false, .int .u64 0, .int .u64 1, .int .i64 80, .int .i64 1, .int .i64 0, .int .i64 5]] W fun e w' => e = .returned (.agg #[.bool false, .int .u64 0, .int .u64 1, .int .i64 80, .int .i64 2, .int .i64 0, .int .i64 5]) ∧ Below W.heap.size W w') := Lib.hid fun W => fly_any (⟨⟨⟨false, 0, 1⟩, 80⟩, 1, 0, 5⟩ : Ey) W
  have X1 : Hid (∀ W, Calls Try.prog 13 #[.agg #[.int .i64 0, .int .i64 0, .int .i64 0, .int .i64 0, .int .i64 0, .int .u64 0, .int .i64 0, .int .i64 0, .int .i64 0, .int .i64 0, .int .i64 0, .int .i64 0, .int .i64 0, .int .i64 2, .int .i64 100, .int .i64 0], .agg #[.bool false, .int .u64 0, .int .u64 1, .int .i64 80, .int .i64 2, .int .i64 0, .int .i64 5], .int .i64 50, .int .i64 0] W fun e w' => e = .returned (.agg #[.bool false, .int .u64 0, .int .u64 1, .int .i64 80, .int .i64 1, .int .i64 1, .int .i64 52]) ∧ Below W.heap.size W w') := Lib.hid fun W => by have k := fail_any c25 c25_ok (⟨⟨⟨false, 0, 1⟩, 80⟩, 2, 0, 5⟩ : Ey) (show (⟨⟨⟨false, 0, 1⟩, 80⟩, 2, 0, 5⟩ : Ey).ok from ⟨⟨⟨by decide, by decide⟩, by decide, by decide⟩, by unfold i64B; decide, by unfold i64B; decide, by unfold i64B; decide⟩) 50 0 (by decide) W; rwa [show failY c25 (⟨⟨⟨false, 0, 1⟩, 80⟩, 2, 0, 5⟩ : Ey) 50 0 = (⟨⟨⟨false, 0, 1⟩, 80⟩, 1, 1, 52⟩ : Ey) from by kernel_rfl] at k
  have X2 : Hid (∀ W, Calls Try.prog 13 #[.agg #[.int .i64 0, .int .i64 0, .int .i64 0, .int .i64 0, .int .i64 0, .int .u64 0, .int .i64 0, .int .i64 0, .int .i64 0, .int .i64 0, .int .i64 0, .int .i64 0, .int .i64 0, .int .i64 2, .int .i64 100, .int .i64 0], .agg #[.bool false, .int .u64 0, .int .u64 1, .int .i64 80, .int .i64 1, .int .i64 1, .int .i64 52], .int .i64 100, .int .i64 0] W fun e w' => e = .returned (.agg #[.bool false, .int .u64 0, .int .u64 1, .int .i64 80, .int .i64 1, .int .i64 2, .int .i64 104]) ∧ Below W.heap.size W w') := Lib.hid fun W => by have k := fail_any c25 c25_ok (⟨⟨⟨false, 0, 1⟩, 80⟩, 1, 1, 52⟩ : Ey) (show (⟨⟨⟨false, 0, 1⟩, 80⟩, 1, 1, 52⟩ : Ey).ok from ⟨⟨⟨by decide, by decide⟩, by decide, by decide⟩, by unfold i64B; decide, by unfold i64B; decide, by unfold i64B; decide⟩) 100 0 (by decide) W; rwa [show failY c25 (⟨⟨⟨false, 0, 1⟩, 80⟩, 1, 1, 52⟩ : Ey) 100 0 = (⟨⟨⟨false, 0, 1⟩, 80⟩, 1, 2, 104⟩ : Ey) from by kernel_rfl] at k
  have R1 : Hid (∀ W, Calls Try.prog 5 #[.agg #[.bool false, .int .u64 0, .int .u64 1, .int .i64 80, .int .i64 1, .int .i64 0, .int .i64 5]] W fun e w' => e = .returned (.bool true) ∧ Below W.heap.size W w') := Lib.hid fun W => by have k := rightY_any (⟨⟨⟨false, 0, 1⟩, 80⟩, 1, 0, 5⟩ : Ey) (show (⟨⟨⟨false, 0, 1⟩, 80⟩, 1, 0, 5⟩ : Ey).ok from ⟨⟨⟨by decide, by decide⟩, by decide, by decide⟩, by unfold i64B; decide, by unfold i64B; decide, by unfold i64B; decide⟩) W; rwa [show rightY (⟨⟨⟨false, 0, 1⟩, 80⟩, 1, 0, 5⟩ : Ey) = true from by decide +kernel] at k
  have D1 : Hid (∀ W, Calls Try.prog 9 #[.agg #[.bool false, .int .u64 0, .int .u64 1, .int .i64 80, .int .i64 1, .int .i64 0, .int .i64 5], .int .i64 5] W fun e w' => e = .returned (.bool true) ∧ Below W.heap.size W w') := Lib.hid fun W => by have k := due_any (⟨⟨⟨false, 0, 1⟩, 80⟩, 1, 0, 5⟩ : Ey) 5 W; rwa [show dueY (⟨⟨⟨false, 0, 1⟩, 80⟩, 1, 0, 5⟩ : Ey) 5 = true from by decide +kernel] at k
  have D2 : Hid (∀ W, Calls Try.prog 9 #[.agg #[.bool false, .int .u64 0, .int .u64 1, .int .i64 80, .int .i64 2, .int .i64 0, .int .i64 5], .int .i64 5] W fun e w' => e = .returned (.bool false) ∧ Below W.heap.size W w') := Lib.hid fun W => by have k := due_any (⟨⟨⟨false, 0, 1⟩, 80⟩, 2, 0, 5⟩ : Ey) 5 W; rwa [show dueY (⟨⟨⟨false, 0, 1⟩, 80⟩, 2, 0, 5⟩ : Ey) 5 = false from by decide +kernel] at k
  have D3 : Hid (∀ W, Calls Try.prog 9 #[.agg #[.bool false, .int .u64 0, .int .u64 1, .int .i64 80, .int .i64 1, .int .i64 2, .int .i64 104], .int .i64 103] W fun e w' => e = .returned (.bool false) ∧ Below W.heap.size W w') := Lib.hid fun W => by have k := due_any (⟨⟨⟨false, 0, 1⟩, 80⟩, 1, 2, 104⟩ : Ey) 103 W; rwa [show dueY (⟨⟨⟨false, 0, 1⟩, 80⟩, 1, 2, 104⟩ : Ey) 103 = false from by decide +kernel] at k
  have D4 : Hid (∀ W, Calls Try.prog 9 #[.agg #[.bool false, .int .u64 0, .int .u64 1, .int .i64 80, .int .i64 1, .int .i64 2, .int .i64 104], .int .i64 104] W fun e w' => e = .returned (.bool true) ∧ Below W.heap.size W w') := Lib.hid fun W => by have k := due_any (⟨⟨⟨false, 0, 1⟩, 80⟩, 1, 2, 104⟩ : Ey) 104 W; rwa [show dueY (⟨⟨⟨false, 0, 1⟩, 80⟩, 1, 2, 104⟩ : Ey) 104 = true from by decide +kernel] at k
  have G1 : Hid (∀ W, Calls Try.prog 15 #[.agg #[.bool false, .int .u64 0, .int .u64 1, .int .i64 80, .int .i64 1, .int .i64 2, .int .i64 104]] W fun e w' => e = .returned (.agg #[.bool false, .int .u64 0, .int .u64 1, .int .i64 80, .int .i64 3, .int .i64 0, .int .i64 104]) ∧ Below W.heap.size W w') := Lib.hid fun W => good_any (⟨⟨⟨false, 0, 1⟩, 80⟩, 1, 2, 104⟩ : Ey) W
  have FS : ∀ W : World, (Instr.field 32 (.agg #[.bool false, .int .u64 0, .int .u64 1, .int .i64 80, .int .i64 3, .int .i64 0, .int .i64 104]) 1).run Try.prog W = .ok (.int .i64 3) W := fun W => field_st (⟨⟨⟨false, 0, 1⟩, 80⟩, 3, 0, 104⟩ : Ey) W
  have L0 : Hid (Below w.heap.size w (w.alloc (.cells #[.int .i64 0, .int .i64 0, .int .i64 0, .int .i64 0, .int .i64 0, .int .u64 0, .int .i64 0, .int .i64 0, .int .i64 0, .int .i64 0, .int .i64 0, .int .i64 0, .int .i64 0, .int .i64 2, .int .i64 100, .int .i64 0] 26))) := Lib.hid (Lows.alloc (Lows.self w) _)
  have OC := Lib.hid (Blk.new w #[.int .i64 0, .int .i64 0, .int .i64 0, .int .i64 0, .int .i64 0, .int .u64 0, .int .i64 0, .int .i64 0, .int .i64 0, .int .i64 0, .int .i64 0, .int .i64 0, .int .i64 0, .int .i64 2, .int .i64 100, .int .i64 0] 26)
  go_enter Try.func18, Try.ntmps18
  go_wp2_with fail
  refine (N1.out _).mono ?_; rintro e w1 ⟨rfl, hb1⟩
  have OC1 := Lib.hid ((OC.out.on hb1).alloc (.cells #[.bool false, .int .u64 0, .int .u64 1, .int .i64 80, .int .i64 1, .int .i64 0, .int .i64 5] 32))
  have OE1 := Lib.hid (Blk.new w1 #[.bool false, .int .u64 0, .int .u64 1, .int .i64 80, .int .i64 1, .int .i64 0, .int .i64 5] 32)
  have L1 := Lib.hid (Lows.alloc (low_trans L0.out hb1) (.cells #[.bool false, .int .u64 0, .int .u64 1, .int .i64 80, .int .i64 1, .int .i64 0, .int .i64 5] 32))
  have HZ : Hid (w.heap.size < w1.heap.size) := Lib.hid (by have := hb1.size; simp at this; omega)
  clear hb1 OC L0 N1
  go_wp2_with fail
  obtain ⟨w2, hw2⟩ : ∃ w2, w2 = (w1.alloc (.cells #[.bool false, .int .u64 0, .int .u64 1, .int .i64 80, .int .i64 1, .int .i64 0, .int .i64 5] 32)) := ⟨_, rfl⟩
  rw [← hw2] at OC1 OE1 L1 ⊢
  clear hw2
  go_upto_region 3 with fail
  go_cut [3] (fun sx wx => ∃ g : Nat, sx = .pointer (some ⟨g, 0, none⟩) ∧ w2.heap.size ≤ g ∧ Blk wx g 32 [.bool false, .int .u64 0, .int .u64 1, .int .i64 80, .int .i64 1, .int .i64 2, .int .i64 104] ∧ Lows w2 wx)
  case first =>
    have IN : Hid (∀ X, Lows w2 X → S25 w.heap.size w1.heap.size w2 X) := Lib.hid fun X h => ⟨Blk.in OC1 h rfl, Blk.in OC1 h rfl, Blk.in OC1 h rfl, Blk.in OC1 h rfl, Blk.in OC1 h rfl, Blk.in OC1 h rfl, Blk.in OC1 h rfl, Blk.in OC1 h rfl, Blk.in OC1 h rfl, Blk.in OC1 h rfl, Blk.in OC1 h rfl, Blk.in OC1 h rfl, Blk.in OC1 h rfl, Blk.in OC1 h rfl, Blk.in OC1 h rfl, Blk.in OC1 h rfl, Blk.in OE1 h rfl, Blk.in OE1 h rfl, Blk.in OE1 h rfl, Blk.in OE1 h rfl, Blk.in OE1 h rfl, Blk.in OE1 h rfl, Blk.in OE1 h rfl, h⟩
    have JD : Hid (∀ X, S25 w.heap.size w1.heap.size w2 X → S25 w.heap.size w1.heap.size w2 X.drew) := Lib.hid fun X h => IN.out _ (low_drewN h.2.2.2.2.2.2.2.2.2.2.2.2.2.2.2.2.2.2.2.2.2.2.2 1)
    have JA : Hid (∀ X oq, S25 w.heap.size w1.heap.size w2 X → S25 w.heap.size w1.heap.size w2 (X.alloc oq)) := Lib.hid fun X oq h => IN.out _ (Lows.alloc h.2.2.2.2.2.2.2.2.2.2.2.2.2.2.2.2.2.2.2.2.2.2.2 oq)
    have JS : Hid (∀ X bq jq uq, S25 w.heap.size w1.heap.size w2 X → w2.heap.size ≤ bq → S25 w.heap.size w1.heap.size w2 (X.setCell ⟨bq, jq, none⟩ uq)) := Lib.hid fun X bq jq uq h hc => IN.out _ (Below.setCell h.2.2.2.2.2.2.2.2.2.2.2.2.2.2.2.2.2.2.2.2.2.2.2 hc uq)
    have K0 : Hid (∀ X, S25 w.heap.size w1.heap.size w2 X → Calls Try.prog 11 #[.agg #[.bool false, .int .u64 0, .int .u64 1, .int .i64 80, .int .i64 1, .int .i64 0, .int .i64 5]] X fun e w' => e = .returned (.agg #[.bool false, .int .u64 0, .int .u64 1, .int .i64 80, .int .i64 2, .int .i64 0, .int .i64 5]) ∧ Below X.heap.size X w' ∧ S25 w.heap.size w1.heap.size w2 w') := Lib.hid fun X h => (F1.out X).mono fun e w' ⟨he, hb⟩ => ⟨he, hb, IN.out _ (low_trans h.2.2.2.2.2.2.2.2.2.2.2.2.2.2.2.2.2.2.2.2.2.2.2 hb)⟩
    have K1 : Hid (∀ X, S25 w.heap.size w1.heap.size w2 X → Calls Try.prog 13 #[.agg #[.int .i64 0, .int .i64 0, .int .i64 0, .int .i64 0, .int .i64 0, .int .u64 0, .int .i64 0, .int .i64 0, .int .i64 0, .int .i64 0, .int .i64 0, .int .i64 0, .int .i64 0, .int .i64 2, .int .i64 100, .int .i64 0], .agg #[.bool false, .int .u64 0, .int .u64 1, .int .i64 80, .int .i64 2, .int .i64 0, .int .i64 5], .int .i64 50, .int .i64 0] X fun e w' => e = .returned (.agg #[.bool false, .int .u64 0, .int .u64 1, .int .i64 80, .int .i64 1, .int .i64 1, .int .i64 52]) ∧ Below X.heap.size X w' ∧ S25 w.heap.size w1.heap.size w2 w') := Lib.hid fun X h => (X1.out X).mono fun e w' ⟨he, hb⟩ => ⟨he, hb, IN.out _ (low_trans h.2.2.2.2.2.2.2.2.2.2.2.2.2.2.2.2.2.2.2.2.2.2.2 hb)⟩
    have K2 : Hid (∀ X, S25 w.heap.size w1.heap.size w2 X → Calls Try.prog 13 #[.agg #[.int .i64 0, .int .i64 0, .int .i64 0, .int .i64 0, .int .i64 0, .int .u64 0, .int .i64 0, .int .i64 0, .int .i64 0, .int .i64 0, .int .i64 0, .int .i64 0, .int .i64 0, .int .i64 2, .int .i64 100, .int .i64 0], .agg #[.bool false, .int .u64 0, .int .u64 1, .int .i64 80, .int .i64 1, .int .i64 1, .int .i64 52], .int .i64 100, .int .i64 0] X fun e w' => e = .returned (.agg #[.bool false, .int .u64 0, .int .u64 1, .int .i64 80, .int .i64 1, .int .i64 2, .int .i64 104]) ∧ Below X.heap.size X w' ∧ S25 w.heap.size w1.heap.size w2 w') := Lib.hid fun X h => (X2.out X).mono fun e w' ⟨he, hb⟩ => ⟨he, hb, IN.out _ (low_trans h.2.2.2.2.2.2.2.2.2.2.2.2.2.2.2.2.2.2.2.2.2.2.2 hb)⟩
    have hk0 := IN.out _ (Lows.self _)
    have hkd := JD.out _ hk0
    go_region_held3 (fun w' => w'.cell? ⟨w.heap.size, 0, none⟩ = some (.int .i64 0) ∧ w'.cell? ⟨w.heap.size, 1, none⟩ = some (.int .i64 0) ∧ w'.cell? ⟨w.heap.size, 2, none⟩ = some (.int .i64 0) ∧ w'.cell? ⟨w.heap.size, 3, none⟩ = some (.int .i64 0) ∧ w'.cell? ⟨w.heap.size, 4, none⟩ = some (.int .i64 0) ∧ w'.cell? ⟨w.heap.size, 5, none⟩ = some (.int .u64 0) ∧ w'.cell? ⟨w.heap.size, 6, none⟩ = some (.int .i64 0) ∧ w'.cell? ⟨w.heap.size, 7, none⟩ = some (.int .i64 0) ∧ w'.cell? ⟨w.heap.size, 8, none⟩ = some (.int .i64 0) ∧ w'.cell? ⟨w.heap.size, 9, none⟩ = some (.int .i64 0) ∧ w'.cell? ⟨w.heap.size, 10, none⟩ = some (.int .i64 0) ∧ w'.cell? ⟨w.heap.size, 11, none⟩ = some (.int .i64 0) ∧ w'.cell? ⟨w.heap.size, 12, none⟩ = some (.int .i64 0) ∧ w'.cell? ⟨w.heap.size, 13, none⟩ = some (.int .i64 2) ∧ w'.cell? ⟨w.heap.size, 14, none⟩ = some (.int .i64 100) ∧ w'.cell? ⟨w.heap.size, 15, none⟩ = some (.int .i64 0) ∧ w'.cell? ⟨w1.heap.size, 0, none⟩ = some (.bool false) ∧ w'.cell? ⟨w1.heap.size, 1, none⟩ = some (.int .u64 0) ∧ w'.cell? ⟨w1.heap.size, 2, none⟩ = some (.int .u64 1) ∧ w'.cell? ⟨w1.heap.size, 3, none⟩ = some (.int .i64 80) ∧ w'.cell? ⟨w1.heap.size, 4, none⟩ = some (.int .i64 1) ∧ w'.cell? ⟨w1.heap.size, 5, none⟩ = some (.int .i64 0) ∧ w'.cell? ⟨w1.heap.size, 6, none⟩ = some (.int .i64 5) ∧ Lows w2 w')
      (first | (with_reducible assumption) | (with_reducible exact JD.out _ (by assumption)) | (with_reducible exact JA.out _ _ (by assumption)) | (with_reducible exact JD.out _ (JA.out _ _ (by assumption))) | ((iterate 7 (with_reducible refine JS.out _ _ _ _ ?_ (by first | exact Nat.le_refl _ | (simp; done) | (simp; omega) | omega))); (with_reducible assumption)))
      (first
        | (go_at_call 11; (with_reducible refine (K0.out _ (by assumption)).mono ?_); rintro e v1 ⟨rfl, hb0, hk0⟩; obtain ⟨hc0, hf0⟩ := old hb0; have hz0 := hb0.size; (try simp [go_sem, Nat.add_one_le_iff] at hz0))
        | (go_at_call 13; (with_reducible refine (K1.out _ (by assumption)).mono ?_); rintro e v2 ⟨rfl, hb1, hk1⟩; obtain ⟨hc1, hf1⟩ := old hb1; have hz1 := hb1.size; (try simp [go_sem, Nat.add_one_le_iff] at hz1))
        | (go_at_call 13; (with_reducible refine (K2.out _ (by assumption)).mono ?_); rintro e v3 ⟨rfl, hb2, hk2⟩; obtain ⟨hc2, hf2⟩ := old hb2; have hz2 := hb2.size; (try simp [go_sem, Nat.add_one_le_iff] at hz2); (try have hy20 := Nat.lt_of_lt_of_le hz0 hb1.size)))
    · go_wp2_with fail
      go_meet
      exact ⟨v3.heap.size, rfl, (hk2.2.2.2.2.2.2.2.2.2.2.2.2.2.2.2.2.2.2.2.2.2.2.2).size, Blk.new v3 _ _, Lows.alloc hk2.2.2.2.2.2.2.2.2.2.2.2.2.2.2.2.2.2.2.2.2.2.2.2 _⟩
    · go_wp2_with fail
      go_meet
      have ho2 : Blk v3 v2.heap.size 32 [.bool false, .int .u64 0, .int .u64 0, .int .i64 0, .int .i64 0, .int .i64 0, .int .i64 0] := by first | exact Blk.on (show Blk (v2.alloc (.cells #[.bool false, .int .u64 0, .int .u64 0, .int .i64 0, .int .i64 0, .int .i64 0, .int .i64 0] 32)).drew v2.heap.size 32 [.bool false, .int .u64 0, .int .u64 0, .int .i64 0, .int .i64 0, .int .i64 0, .int .i64 0] from Blk.new v2 _ _) hb2 | exact Blk.on (Blk.new v2 _ _) hb2
      exact ⟨v2.heap.size, rfl, (hk1.2.2.2.2.2.2.2.2.2.2.2.2.2.2.2.2.2.2.2.2.2.2.2).size, (((((((ho2.set 0 (.bool false)).set 1 (.int .u64 0)).set 2 (.int .u64 1)).set 3 (.int .i64 80)).set 4 (.int .i64 1)).set 5 (.int .i64 2)).set 6 (.int .i64 104)), (Below.setCell (Below.setCell (Below.setCell (Below.setCell (Below.setCell (Below.setCell (Below.setCell hk2.2.2.2.2.2.2.2.2.2.2.2.2.2.2.2.2.2.2.2.2.2.2.2 (hk1.2.2.2.2.2.2.2.2.2.2.2.2.2.2.2.2.2.2.2.2.2.2.2).size (.bool false)) (hk1.2.2.2.2.2.2.2.2.2.2.2.2.2.2.2.2.2.2.2.2.2.2.2).size (.int .u64 0)) (hk1.2.2.2.2.2.2.2.2.2.2.2.2.2.2.2.2.2.2.2.2.2.2.2).size (.int .u64 1)) (hk1.2.2.2.2.2.2.2.2.2.2.2.2.2.2.2.2.2.2.2.2.2.2.2).size (.int .i64 80)) (hk1.2.2.2.2.2.2.2.2.2.2.2.2.2.2.2.2.2.2.2.2.2.2.2).size (.int .i64 1)) (hk1.2.2.2.2.2.2.2.2.2.2.2.2.2.2.2.2.2.2.2.2.2.2.2).size (.int .i64 2)) (hk1.2.2.2.2.2.2.2.2.2.2.2.2.2.2.2.2.2.2.2.2.2.2.2).size (.int .i64 104))⟩
    · go_wp2_with fail
      go_meet
      have ho1 : Blk v2 v1.heap.size 32 [.bool false, .int .u64 0, .int .u64 0, .int .i64 0, .int .i64 0, .int .i64 0, .int .i64 0] := by first | exact Blk.on (show Blk (v1.alloc (.cells #[.bool false, .int .u64 0, .int .u64 0, .int .i64 0, .int .i64 0, .int .i64 0, .int .i64 0] 32)).drew v1.heap.size 32 [.bool false, .int .u64 0, .int .u64 0, .int .i64 0, .int .i64 0, .int .i64 0, .int .i64 0] from Blk.new v1 _ _) hb1 | exact Blk.on (Blk.new v1 _ _) hb1
      have ho2 := ho1.on hb2
      exact ⟨v1.heap.size, rfl, (hk0.2.2.2.2.2.2.2.2.2.2.2.2.2.2.2.2.2.2.2.2.2.2.2).size, (((((((ho2.set 0 (.bool false)).set 1 (.int .u64 0)).set 2 (.int .u64 1)).set 3 (.int .i64 80)).set 4 (.int .i64 1)).set 5 (.int .i64 2)).set 6 (.int .i64 104)), (Below.setCell (Below.setCell (Below.setCell (Below.setCell (Below.setCell (Below.setCell (Below.setCell hk2.2.2.2.2.2.2.2.2.2.2.2.2.2.2.2.2.2.2.2.2.2.2.2 (hk0.2.2.2.2.2.2.2.2.2.2.2.2.2.2.2.2.2.2.2.2.2.2.2).size (.bool false)) (hk0.2.2.2.2.2.2.2.2.2.2.2.2.2.2.2.2.2.2.2.2.2.2.2).size (.int .u64 0)) (hk0.2.2.2.2.2.2.2.2.2.2.2.2.2.2.2.2.2.2.2.2.2.2.2).size (.int .u64 1)) (hk0.2.2.2.2.2.2.2.2.2.2.2.2.2.2.2.2.2.2.2.2.2.2.2).size (.int .i64 80)) (hk0.2.2.2.2.2.2.2.2.2.2.2.2.2.2.2.2.2.2.2.2.2.2.2).size (.int .i64 1)) (hk0.2.2.2.2.2.2.2.2.2.2.2.2.2.2.2.2.2.2.2.2.2.2.2).size (.int .i64 2)) (hk0.2.2.2.2.2.2.2.2.2.2.2.2.2.2.2.2.2.2.2.2.2.2.2).size (.int .i64 104))⟩
    · go_wp2_with fail
      go_meet
      have ho0 : Blk v1 w2.heap.size 32 [.bool false, .int .u64 0, .int .u64 0, .int .i64 0, .int .i64 0, .int .i64 0, .int .i64 0] := by first | exact Blk.on (show Blk (w2.alloc (.cells #[.bool false, .int .u64 0, .int .u64 0, .int .i64 0, .int .i64 0, .int .i64 0, .int .i64 0] 32)).drew w2.heap.size 32 [.bool false, .int .u64 0, .int .u64 0, .int .i64 0, .int .i64 0, .int .i64 0, .int .i64 0] from Blk.new w2 _ _) hb0 | exact Blk.on (Blk.new w2 _ _) hb0
      have ho1 := ho0.on hb1
      have ho2 := ho1.on hb2
      exact ⟨w2.heap.size, rfl, ((Lows.self w2)).size, (((((((ho2.set 0 (.bool false)).set 1 (.int .u64 0)).set 2 (.int .u64 1)).set 3 (.int .i64 80)).set 4 (.int .i64 1)).set 5 (.int .i64 2)).set 6 (.int .i64 104)), (Below.setCell (Below.setCell (Below.setCell (Below.setCell (Below.setCell (Below.setCell (Below.setCell hk2.2.2.2.2.2.2.2.2.2.2.2.2.2.2.2.2.2.2.2.2.2.2.2 ((Lows.self w2)).size (.bool false)) ((Lows.self w2)).size (.int .u64 0)) ((Lows.self w2)).size (.int .u64 1)) ((Lows.self w2)).size (.int .i64 80)) ((Lows.self w2)).size (.int .i64 1)) ((Lows.self w2)).size (.int .i64 2)) ((Lows.self w2)).size (.int .i64 104))⟩
  case rest =>
    obtain ⟨g, rfl, hg, ho, hlow⟩ := hcut
    have OX2 := Lib.hid ho
    have OE2 := Lib.hid (OE1.out.on hlow)
    have L2 := Lib.hid (low_trans L1.out hlow)
    obtain ⟨w3, hw3⟩ : ∃ w3, w3 = wc := ⟨_, rfl⟩
    subst hw3
    clear hg ho hlow OC1 OE1 L1 X1 X2
    have s0 := OE2.out.cell (j := 0) rfl
    have s1 := OE2.out.cell (j := 1) rfl
    have s2 := OE2.out.cell (j := 2) rfl
    have s3 := OE2.out.cell (j := 3) rfl
    have s4 := OE2.out.cell (j := 4) rfl
    have s5 := OE2.out.cell (j := 5) rfl
    have s6 := OE2.out.cell (j := 6) rfl
    go_wp2_with fail
    refine (R1.out _).mono ?_; rintro e v0 ⟨rfl, hb⟩
    have OX3 := Lib.hid (OX2.out.on hb)
    have OE3 := Lib.hid (OE2.out.on hb)
    have L3 := Lib.hid (low_trans L2.out hb)
    clear hb OX2 OE2 L2 s0 s1 s2 s3 s4 s5 s6
    have s0 := OE3.out.cell (j := 0) rfl
    have s1 := OE3.out.cell (j := 1) rfl
    have s2 := OE3.out.cell (j := 2) rfl
    have s3 := OE3.out.cell (j := 3) rfl
    have s4 := OE3.out.cell (j := 4) rfl
    have s5 := OE3.out.cell (j := 5) rfl
    have s6 := OE3.out.cell (j := 6) rfl
    have x0 := OX3.out.cell (j := 0) rfl
    have x1 := OX3.out.cell (j := 1) rfl
    have x2 := OX3.out.cell (j := 2) rfl
    have x3 := OX3.out.cell (j := 3) rfl
    have x4 := OX3.out.cell (j := 4) rfl
    have x5 := OX3.out.cell (j := 5) rfl
    have x6 := OX3.out.cell (j := 6) rfl
    go_wp2_with fail
    refine (D1.out _).mono ?_; rintro e v1 ⟨rfl, hb⟩
    have OX4 := Lib.hid (OX3.out.on hb)
    have OE4 := Lib.hid (OE3.out.on hb)
    have L4 := Lib.hid (low_trans L3.out hb)
    clear hb OX3 OE3 L3 s0 s1 s2 s3 s4 s5 s6 x0 x1 x2 x3 x4 x5 x6
    have s0 := OE4.out.cell (j := 0) rfl
    have s1 := OE4.out.cell (j := 1) rfl
    have s2 := OE4.out.cell (j := 2) rfl
    have s3 := OE4.out.cell (j := 3) rfl
    have s4 := OE4.out.cell (j := 4) rfl
    have s5 := OE4.out.cell (j := 5) rfl
    have s6 := OE4.out.cell (j := 6) rfl
    have x0 := OX4.out.cell (j := 0) rfl
    have x1 := OX4.out.cell (j := 1) rfl
    have x2 := OX4.out.cell (j := 2) rfl
    have x3 := OX4.out.cell (j := 3) rfl
    have x4 := OX4.out.cell (j := 4) rfl
    have x5 := OX4.out.cell (j := 5) rfl
    have x6 := OX4.out.cell (j := 6) rfl
    go_wp2_with fail
    refine (F1.out _).mono ?_; rintro e v2 ⟨rfl, hb⟩
    have OX5 := Lib.hid (OX4.out.on hb)
    have OE5 := Lib.hid (OE4.out.on hb)
    have L5 := Lib.hid (low_trans L4.out hb)
    clear hb OX4 OE4 L4 s0 s1 s2 s3 s4 s5 s6 x0 x1 x2 x3 x4 x5 x6
    have s0 := OE5.out.cell (j := 0) rfl
    have s1 := OE5.out.cell (j := 1) rfl
    have s2 := OE5.out.cell (j := 2) rfl
    have s3 := OE5.out.cell (j := 3) rfl
    have s4 := OE5.out.cell (j := 4) rfl
    have s5 := OE5.out.cell (j := 5) rfl
    have s6 := OE5.out.cell (j := 6) rfl
    have x0 := OX5.out.cell (j := 0) rfl
    have x1 := OX5.out.cell (j := 1) rfl
    have x2 := OX5.out.cell (j := 2) rfl
    have x3 := OX5.out.cell (j := 3) rfl
    have x4 := OX5.out.cell (j := 4) rfl
    have x5 := OX5.out.cell (j := 5) rfl
    have x6 := OX5.out.cell (j := 6) rfl
    go_wp2_with fail
    refine (D2.out _).mono ?_; rintro e v3 ⟨rfl, hb⟩
    have OX6 := Lib.hid (OX5.out.on hb)
    have OE6 := Lib.hid (OE5.out.on hb)
    have L6 := Lib.hid (low_trans L5.out hb)
    clear hb OX5 OE5 L5 s0 s1 s2 s3 s4 s5 s6 x0 x1 x2 x3 x4 x5 x6
    have s0 := OE6.out.cell (j := 0) rfl
    have s1 := OE6.out.cell (j := 1) rfl
    have s2 := OE6.out.cell (j := 2) rfl
    have s3 := OE6.out.cell (j := 3) rfl
    have s4 := OE6.out.cell (j := 4) rfl
    have s5 := OE6.out.cell (j := 5) rfl
    have s6 := OE6.out.cell (j := 6) rfl
    have x0 := OX6.out.cell (j := 0) rfl
    have x1 := OX6.out.cell (j := 1) rfl
    have x2 := OX6.out.cell (j := 2) rfl
    have x3 := OX6.out.cell (j := 3) rfl
    have x4 := OX6.out.cell (j := 4) rfl
    have x5 := OX6.out.cell (j := 5) rfl
    have x6 := OX6.out.cell (j := 6) rfl
    go_wp2_with fail
    refine (D3.out _).mono ?_; rintro e v4 ⟨rfl, hb⟩
    have OX7 := Lib.hid (OX6.out.on hb)
    have OE7 := Lib.hid (OE6.out.on hb)
    have L7 := Lib.hid (low_trans L6.out hb)
    clear hb OX6 OE6 L6 s0 s1 s2 s3 s4 s5 s6 x0 x1 x2 x3 x4 x5 x6
    have s0 := OE7.out.cell (j := 0) rfl
    have s1 := OE7.out.cell (j := 1) rfl
    have s2 := OE7.out.cell (j := 2) rfl
    have s3 := OE7.out.cell (j := 3) rfl
    have s4 := OE7.out.cell (j := 4) rfl
    have s5 := OE7.out.cell (j := 5) rfl
    have s6 := OE7.out.cell (j := 6) rfl
    have x0 := OX7.out.cell (j := 0) rfl
    have x1 := OX7.out.cell (j := 1) rfl
    have x2 := OX7.out.cell (j := 2) rfl
    have x3 := OX7.out.cell (j := 3) rfl
    have x4 := OX7.out.cell (j := 4) rfl
    have x5 := OX7.out.cell (j := 5) rfl
    have x6 := OX7.out.cell (j := 6) rfl
    go_wp2_with fail
    refine (D4.out _).mono ?_; rintro e v5 ⟨rfl, hb⟩
    have OX8 := Lib.hid (OX7.out.on hb)
    have OE8 := Lib.hid (OE7.out.on hb)
    have L8 := Lib.hid (low_trans L7.out hb)
    clear hb OX7 OE7 L7 s0 s1 s2 s3 s4 s5 s6 x0 x1 x2 x3 x4 x5 x6
    have s0 := OE8.out.cell (j := 0) rfl
    have s1 := OE8.out.cell (j := 1) rfl
    have s2 := OE8.out.cell (j := 2) rfl
    have s3 := OE8.out.cell (j := 3) rfl
    have s4 := OE8.out.cell (j := 4) rfl
    have s5 := OE8.out.cell (j := 5) rfl
    have s6 := OE8.out.cell (j := 6) rfl
    have x0 := OX8.out.cell (j := 0) rfl
    have x1 := OX8.out.cell (j := 1) rfl
    have x2 := OX8.out.cell (j := 2) rfl
    have x3 := OX8.out.cell (j := 3) rfl
    have x4 := OX8.out.cell (j := 4) rfl
    have x5 := OX8.out.cell (j := 5) rfl
    have x6 := OX8.out.cell (j := 6) rfl
    go_wp2_with fail
    refine (G1.out _).mono ?_; rintro e v6 ⟨rfl, hb⟩
    have OX9 := Lib.hid (OX8.out.on hb)
    have OE9 := Lib.hid (OE8.out.on hb)
    have L9 := Lib.hid (low_trans L8.out hb)
    clear hb OX8 OE8 L8 s0 s1 s2 s3 s4 s5 s6 x0 x1 x2 x3 x4 x5 x6
    have s0 := OE9.out.cell (j := 0) rfl
    have s1 := OE9.out.cell (j := 1) rfl
    have s2 := OE9.out.cell (j := 2) rfl
    have s3 := OE9.out.cell (j := 3) rfl
    have s4 := OE9.out.cell (j := 4) rfl
    have s5 := OE9.out.cell (j := 5) rfl
    have s6 := OE9.out.cell (j := 6) rfl
    have x0 := OX9.out.cell (j := 0) rfl
    have x1 := OX9.out.cell (j := 1) rfl
    have x2 := OX9.out.cell (j := 2) rfl
    have x3 := OX9.out.cell (j := 3) rfl
    have x4 := OX9.out.cell (j := 4) rfl
    have x5 := OX9.out.cell (j := 5) rfl
    have x6 := OX9.out.cell (j := 6) rfl
    go_wp2_with fail
    go_ret
    exact ⟨rfl, L9.out⟩
end Go.Proofs.Ytnknhmfhejdbfaa
