/- Of the statements of layer 17 (peer): the example; ten cells stored. -/
import Derived.Test.YtdlbhcakfciagaaPeerDoor
import Derived.Test.YtdlbhcakfciagaaPeer
import Derived.Test.YtdlbhcakfciagaaRef17
import Derived.Test.YtdlbhcakfciagaaDoor
import Derived.Test.YtdlbhcakfciagaaBox
import Derived.Deep.CutRange
import Derived.Deep.LoopGhost
namespace Go.Proofs.Ytdlbhcakfciagaa
set_option maxRecDepth 100000
open Go.ChangeShapes Go.WideShapes Go.ChangeAt Go.RowKit
open Dec Words V4 V6 Ad Ci En Sat Ha Pe Go.Deep
set_option linter.unusedVariables false
theorem put10 {w : World} {b : Nat} {t : TypeId} {vs : List Value} (h : Blk w b t vs) (hl : vs.length = 10) (v0 v1 v2 v3 v4 v5 v6 v7 v8 v9 : Value) : Blk ((((((((((w.setCell ⟨b, 0, none⟩ v0).setCell ⟨b, 1, none⟩ v1).setCell ⟨b, 2, none⟩ v2).setCell ⟨b, 3, none⟩ v3).setCell ⟨b, 4, none⟩ v4).setCell ⟨b, 5, none⟩ v5).setCell ⟨b, 6, none⟩ v6).setCell ⟨b, 7, none⟩ v7).setCell ⟨b, 8, none⟩ v8).setCell ⟨b, 9, none⟩ v9) b t [v0, v1, v2, v3, v4, v5, v6, v7, v8, v9] := by
  match vs, hl with
  | [_, _, _, _, _, _, _, _, _, _], _ => simpa using (((((((((((h.set 0 v0).set 1 v1).set 2 v2).set 3 v3).set 4 v4).set 5 v5).set 6 v6).set 7 v7).set 8 v8).set 9 v9))
theorem bt10 (w : World) (b : Nat) (v0 v1 v2 v3 v4 v5 v6 v7 v8 v9 : Value) : Bt b w ((((((((((w.setCell ⟨b, 0, none⟩ v0).setCell ⟨b, 1, none⟩ v1).setCell ⟨b, 2, none⟩ v2).setCell ⟨b, 3, none⟩ v3).setCell ⟨b, 4, none⟩ v4).setCell ⟨b, 5, none⟩ v5).setCell ⟨b, 6, none⟩ v6).setCell ⟨b, 7, none⟩ v7).setCell ⟨b, 8, none⟩ v8).setCell ⟨b, 9, none⟩ v9) := (((((((((Bt.setCell _ _ _ _).trans (Bt.setCell _ _ _ _)).trans (Bt.setCell _ _ _ _)).trans (Bt.setCell _ _ _ _)).trans (Bt.setCell _ _ _ _)).trans (Bt.setCell _ _ _ _)).trans (Bt.setCell _ _ _ _)).trans (Bt.setCell _ _ _ _)).trans (Bt.setCell _ _ _ _)).trans (Bt.setCell _ _ _ _)
set_option maxHeartbeats 4000000 in
theorem awake17_any (w : World) : Calls Try.prog 17 #[] w fun e w' => e = .returned (.bool true) ∧ Below w.heap.size w w' := by
  have ok1 : (⟨⟨⟨false, 0, 1⟩, 80⟩, true, 5, ⟨0, 5⟩, 30, 0⟩ : Pr).ok := ⟨⟨⟨by decide, by decide⟩, by decide, by decide⟩, by decide, ⟨by decide, by decide⟩, by decide, by decide⟩
  have N1 : Hid (∀ W, Calls Try.prog 7 #[.agg #[.bool false, .int .u64 0, .int .u64 1, .int .i64 80], .bool true, .int .i64 5] W fun e w' => e = .returned (.agg #[.bool false, .int .u64 0, .int .u64 1, .int .i64 80, .bool true, .int .i64 5, .int .i64 0, .int .i64 5, .int .i64 0, .int .i64 0]) ∧ Below W.heap.size W w') := Lib.hid fun W => by have k := newP_any ⟨⟨false, 0, 1⟩, 80⟩ true 5 W; rwa [show newP ⟨⟨false, 0, 1⟩, 80⟩ true 5 = (⟨⟨⟨false, 0, 1⟩, 80⟩, true, 5, ⟨0, 5⟩, 0, 0⟩ : Pr) from by kernel_rfl] at k
  have G1 : Hid (∀ W, Calls Try.prog 9 #[.agg #[.bool false, .int .u64 0, .int .u64 1, .int .i64 80, .bool true, .int .i64 5, .int .i64 0, .int .i64 5, .int .i64 0, .int .i64 0], .int .i64 30] W fun e w' => e = .returned (.agg #[.bool false, .int .u64 0, .int .u64 1, .int .i64 80, .bool true, .int .i64 5, .int .i64 0, .int .i64 5, .int .i64 30, .int .i64 0]) ∧ Below W.heap.size W w') := Lib.hid fun W => by have k := pong_any (⟨⟨⟨false, 0, 1⟩, 80⟩, true, 5, ⟨0, 5⟩, 0, 0⟩ : Pr) 30 W; rwa [show pongP (⟨⟨⟨false, 0, 1⟩, 80⟩, true, 5, ⟨0, 5⟩, 0, 0⟩ : Pr) 30 = (⟨⟨⟨false, 0, 1⟩, 80⟩, true, 5, ⟨0, 5⟩, 30, 0⟩ : Pr) from by kernel_rfl] at k
  have G2 : Hid (∀ W, Calls Try.prog 9 #[.agg #[.bool false, .int .u64 0, .int .u64 1, .int .i64 80, .bool true, .int .i64 5, .int .i64 0, .int .i64 5, .int .i64 30, .int .i64 0], .int .i64 50] W fun e w' => e = .returned (.agg #[.bool false, .int .u64 0, .int .u64 1, .int .i64 80, .bool true, .int .i64 5, .int .i64 0, .int .i64 5, .int .i64 30, .int .i64 0]) ∧ Below W.heap.size W w') := Lib.hid fun W => by have k := pong_any (⟨⟨⟨false, 0, 1⟩, 80⟩, true, 5, ⟨0, 5⟩, 30, 0⟩ : Pr) 50 W; rwa [show pongP (⟨⟨⟨false, 0, 1⟩, 80⟩, true, 5, ⟨0, 5⟩, 30, 0⟩ : Pr) 50 = (⟨⟨⟨false, 0, 1⟩, 80⟩, true, 5, ⟨0, 5⟩, 30, 0⟩ : Pr) from by kernel_rfl] at k
  have R1 : Hid (∀ W, Calls Try.prog 5 #[.agg #[.bool false, .int .u64 0, .int .u64 1, .int .i64 80, .bool true, .int .i64 5, .int .i64 0, .int .i64 5, .int .i64 30, .int .i64 0]] W fun e w' => e = .returned (.bool true) ∧ Below W.heap.size W w') := Lib.hid fun W => by have k := rightP_any (⟨⟨⟨false, 0, 1⟩, 80⟩, true, 5, ⟨0, 5⟩, 30, 0⟩ : Pr) ok1 W; rwa [show rightP (⟨⟨⟨false, 0, 1⟩, 80⟩, true, 5, ⟨0, 5⟩, 30, 0⟩ : Pr) = true from by decide +kernel] at k
  have X1 : Hid (∀ W, Calls Try.prog 15 #[.agg #[.bool false, .int .u64 0, .int .u64 1, .int .i64 80, .bool true, .int .i64 5, .int .i64 0, .int .i64 5, .int .i64 30, .int .i64 0]] W fun e w' => e = .returned (.string ⟨#[105, 110, 32, 48, 46, 48, 46, 48, 46, 49, 58, 56, 48, 32, 115, 105, 110, 99, 101, 32, 53, 32, 112, 111, 105, 110, 116, 115, 32, 48, 32, 112, 105, 110, 103, 32, 51, 48, 32, 119, 111, 114, 107, 32, 48]⟩) ∧ Below W.heap.size W w') := Lib.hid fun W => by have k := textP_any (⟨⟨⟨false, 0, 1⟩, 80⟩, true, 5, ⟨0, 5⟩, 30, 0⟩ : Pr) ok1 W; rwa [show textP (⟨⟨⟨false, 0, 1⟩, 80⟩, true, 5, ⟨0, 5⟩, 30, 0⟩ : Pr) = [105, 110, 32, 48, 46, 48, 46, 48, 46, 49, 58, 56, 48, 32, 115, 105, 110, 99, 101, 32, 53, 32, 112, 111, 105, 110, 116, 115, 32, 48, 32, 112, 105, 110, 103, 32, 51, 48, 32, 119, 111, 114, 107, 32, 48] from by decide +kernel] at k
  clear ok1
  go_enter Try.func17, Try.ntmps17
  go_wp2_with fail
  refine (N1.out _).mono ?_; rintro e w1 ⟨rfl, hb1⟩
  have L1 := Lib.hid (Lows.alloc hb1 (.cells #[.bool false, .int .u64 0, .int .u64 1, .int .i64 80, .bool true, .int .i64 5, .int .i64 0, .int .i64 5, .int .i64 0, .int .i64 0] 30))
  have O1 := Lib.hid (Blk.new w1 #[.bool false, .int .u64 0, .int .u64 1, .int .i64 80, .bool true, .int .i64 5, .int .i64 0, .int .i64 5, .int .i64 0, .int .i64 0] 30)
  have Z := Lib.hid hb1.size
  clear hb1
  go_wp2_with fail
  refine (G1.out _).mono ?_; rintro e w2 ⟨rfl, hb2⟩
  have O2 := Lib.hid (O1.out.on hb2)
  have L2 := Lib.hid (low_trans L1.out hb2)
  clear hb2 O1 L1 N1
  go_wp2_with fail
  refine (G2.out _).mono ?_; rintro e w3 ⟨rfl, hb3⟩
  have own := O2.out.on hb3
  have s0 := own.cell (j := 0) rfl
  have s1 := own.cell (j := 1) rfl
  have s2 := own.cell (j := 2) rfl
  have s3 := own.cell (j := 3) rfl
  have s4 := own.cell (j := 4) rfl
  have s5 := own.cell (j := 5) rfl
  have s6 := own.cell (j := 6) rfl
  have s7 := own.cell (j := 7) rfl
  have s8 := own.cell (j := 8) rfl
  have s9 := own.cell (j := 9) rfl
  have f0 := own.free 0
  have f1 := own.free 1
  have f2 := own.free 2
  have f3 := own.free 3
  have f4 := own.free 4
  have f5 := own.free 5
  have f6 := own.free 6
  have f7 := own.free 7
  have f8 := own.free 8
  have f9 := own.free 9
  have O3 := Lib.hid own
  have L3 := Lib.hid (low_trans L2.out hb3)
  clear hb3 O2 L2 G1 G2 own
  go_wp2_with fail
  refine (R1.out _).mono ?_; rintro e w4 ⟨rfl, hb4⟩
  have own := (put10 O3.out rfl _ _ _ _ _ _ _ _ _ _ ).on hb4
  have L4 := Lib.hid (low_trans (L3.out.trans ((bt10 w3 w1.heap.size _ _ _ _ _ _ _ _ _ _ ).low Z.out L3.out.size)) hb4)
  clear s0 f0 s1 f1 s2 f2 s3 f3 s4 f4 s5 f5 s6 f6 s7 f7 s8 f8 s9 f9 hb4 O3 L3 R1
  have s0 := own.cell (j := 0) rfl
  have s1 := own.cell (j := 1) rfl
  have s2 := own.cell (j := 2) rfl
  have s3 := own.cell (j := 3) rfl
  have s4 := own.cell (j := 4) rfl
  have s5 := own.cell (j := 5) rfl
  have s6 := own.cell (j := 6) rfl
  have s7 := own.cell (j := 7) rfl
  have s8 := own.cell (j := 8) rfl
  have s9 := own.cell (j := 9) rfl
  clear own
  go_wp2_with fail
  refine (X1.out _).mono ?_; rintro e w5 ⟨rfl, hb5⟩
  have L5 := Lib.hid (low_trans L4.out hb5)
  clear hb5 L4 X1
  go_wp2_with fail
  go_ret
  exact ⟨rfl, L5.out⟩
end Go.Proofs.Ytdlbhcakfciagaa
