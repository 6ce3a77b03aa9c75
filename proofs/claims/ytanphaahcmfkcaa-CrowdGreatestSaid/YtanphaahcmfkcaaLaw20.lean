/- Of the statements of layer 20 (crowd): the example. -/
import Derived.Test.YtanphaahcmfkcaaRef20
namespace Go.Proofs.Ytanphaahcmfkcaa
set_option maxRecDepth 100000
open Go.ChangeShapes Go.WideShapes Go.ChangeAt Go.RowKit
open Dec Words V4 V6 Ad Ci En Sat Ha Pe Stb Gr Mi Ra Cw Go.Deep
set_option linter.unusedVariables false
theorem at20_0 (w : World) : Calls Try.prog 14 #[.int .u64 1, .int .i64 5] w fun e w' => e = .returned (.agg #[.bool false, .int .u64 0, .int .u64 167837697, .int .i64 1005, .bool true, .int .i64 5, .int .i64 0, .int .i64 0, .int .i64 0, .int .i64 0]) ∧ Below w.heap.size w w' := by
  have L : Below w.heap.size w (w.alloc (.cells #[.bool false, .int .u64 0, .int .u64 167837697, .int .i64 1005, .bool true, .int .i64 5, .int .i64 0, .int .i64 0, .int .i64 0, .int .i64 0] 34)) := (Below.refl _ _).alloc (Nat.le_refl _) _
  go_enter Try.func14, Try.ntmps14
  go_wp2_with fail
  exact bodyPost_ret (v := .agg #[.bool false, .int .u64 0, .int .u64 167837697, .int .i64 1005, .bool true, .int .i64 5, .int .i64 0, .int .i64 0, .int .i64 0, .int .i64 0]) (by simp [results, Try.results14, go_sem]) rfl ⟨rfl, L⟩
theorem at20_1 (w : World) : Calls Try.prog 14 #[.int .u64 2, .int .i64 20] w fun e w' => e = .returned (.agg #[.bool false, .int .u64 0, .int .u64 167903233, .int .i64 1020, .bool true, .int .i64 20, .int .i64 0, .int .i64 0, .int .i64 0, .int .i64 0]) ∧ Below w.heap.size w w' := by
  have L : Below w.heap.size w (w.alloc (.cells #[.bool false, .int .u64 0, .int .u64 167903233, .int .i64 1020, .bool true, .int .i64 20, .int .i64 0, .int .i64 0, .int .i64 0, .int .i64 0] 34)) := (Below.refl _ _).alloc (Nat.le_refl _) _
  go_enter Try.func14, Try.ntmps14
  go_wp2_with fail
  exact bodyPost_ret (v := .agg #[.bool false, .int .u64 0, .int .u64 167903233, .int .i64 1020, .bool true, .int .i64 20, .int .i64 0, .int .i64 0, .int .i64 0, .int .i64 0]) (by simp [results, Try.results14, go_sem]) rfl ⟨rfl, L⟩
theorem at20_2 (w : World) : Calls Try.prog 14 #[.int .u64 1, .int .i64 9] w fun e w' => e = .returned (.agg #[.bool false, .int .u64 0, .int .u64 167837697, .int .i64 1009, .bool true, .int .i64 9, .int .i64 0, .int .i64 0, .int .i64 0, .int .i64 0]) ∧ Below w.heap.size w w' := by
  have L : Below w.heap.size w (w.alloc (.cells #[.bool false, .int .u64 0, .int .u64 167837697, .int .i64 1009, .bool true, .int .i64 9, .int .i64 0, .int .i64 0, .int .i64 0, .int .i64 0] 34)) := (Below.refl _ _).alloc (Nat.le_refl _) _
  go_enter Try.func14, Try.ntmps14
  go_wp2_with fail
  exact bodyPost_ret (v := .agg #[.bool false, .int .u64 0, .int .u64 167837697, .int .i64 1009, .bool true, .int .i64 9, .int .i64 0, .int .i64 0, .int .i64 0, .int .i64 0]) (by simp [results, Try.results14, go_sem]) rfl ⟨rfl, L⟩
def l20 : List Pr := [⟨⟨⟨false, 0, 167837697⟩, 1005⟩, true, 5, ⟨0, 0⟩, 0, 0⟩, ⟨⟨⟨false, 0, 167903233⟩, 1020⟩, true, 20, ⟨0, 0⟩, 0, 0⟩, ⟨⟨⟨false, 0, 167837697⟩, 1009⟩, true, 9, ⟨0, 0⟩, 0, 0⟩]
theorem l20_ok : ∀ x ∈ l20, x.ok := by
  intro x hx
  simp only [l20, List.mem_cons, List.not_mem_nil, or_false] at hx
  rcases hx with rfl | rfl | rfl <;> exact ⟨⟨⟨by decide, by decide⟩, by decide, by decide⟩, by decide, ⟨by decide, by decide⟩, by decide, by decide⟩
set_option maxHeartbeats 8000000 in
theorem awake20_any (w : World) : Calls Try.prog 5 #[] w fun e w' => e = .returned (.bool true) ∧ Below w.heap.size w w' := by
  have A1 := Lib.hid (fun W => at20_0 W)
  have A2 := Lib.hid (fun W => at20_1 W)
  have A3 := Lib.hid (fun W => at20_2 W)
  have P1 : Hid (∀ W v, Peers W v l20 → Calls Try.prog 10 #[v] W fun e w' => e = .returned (.int .i64 2) ∧ Below W.heap.size W w') := Lib.hid fun W v h => by
    have k := pick_any v l20 W h l20_ok (by decide)
    rwa [show pickR l20 = 2 from by decide +kernel] at k
  have K1 : Hid (∀ W v, Peers W v l20 → Calls Try.prog 6 #[v, .int .i64 0] W fun e w' => e = .returned (.int .i64 2) ∧ Below W.heap.size W w') := Lib.hid fun W v h => by
    have k := crowd_any v l20 0 W h l20_ok (by decide)
    rwa [show crowdR l20 0 = 2 from by decide +kernel] at k
  have Y1 : Hid (∀ W, Calls Try.prog 8 #[.agg #[.bool false, .int .u64 0, .int .u64 167903233, .int .i64 1020, .bool true, .int .i64 20, .int .i64 0, .int .i64 0, .int .i64 0, .int .i64 0], .agg #[.bool false, .int .u64 0, .int .u64 167837697, .int .i64 1005, .bool true, .int .i64 5, .int .i64 0, .int .i64 0, .int .i64 0, .int .i64 0]] W fun e w' => e = .returned (.bool true) ∧ Below W.heap.size W w') := Lib.hid fun W => by
    have k := younger_any (l20[1]!) (l20[0]!) W (l20_ok _ (by rw [getElem!_pos l20 1 (by decide)]; exact List.getElem_mem _)) (l20_ok _ (by rw [getElem!_pos l20 0 (by decide)]; exact List.getElem_mem _))
    rwa [show youngR (l20[1]!) (l20[0]!) = true from by decide +kernel] at k
  have P2 : Hid (∀ W, Calls Try.prog 10 #[.slice none 0 0] W fun e w' => e = .returned (.int .i64 (-1)) ∧ Below W.heap.size W w') := Lib.hid fun W => by
    have k := pick_any (.slice none 0 0) [] W (Recs.nil _ _ _) (fun _ h => by cases h) (by decide)
    rwa [show pickR [] = -1 from by decide +kernel] at k
  go_enter Try.func5, Try.ntmps5
  go_wp2_with fail
  refine (A1.out _).mono ?_; rintro e w1 ⟨rfl, hb1⟩
  have L1 := Lib.hid hb1
  clear hb1
  go_wp2_with fail
  refine (A2.out _).mono ?_; rintro e w2 ⟨rfl, hb2⟩
  have L2 := Lib.hid (low_trans L1.out hb2)
  clear hb2 L1
  go_wp2_with fail
  refine (A3.out _).mono ?_; rintro e w3 ⟨rfl, hb3⟩
  have L3 := Lib.hid (low_trans L2.out hb3)
  have L4 : Hid (Below w.heap.size w (w3.alloc (.cells #[.bool false, .int .u64 0, .int .u64 167837697, .int .i64 1005, .bool true, .int .i64 5, .int .i64 0, .int .i64 0, .int .i64 0, .int .i64 0, .bool false, .int .u64 0, .int .u64 167903233, .int .i64 1020, .bool true, .int .i64 20, .int .i64 0, .int .i64 0, .int .i64 0, .int .i64 0, .bool false, .int .u64 0, .int .u64 167837697, .int .i64 1009, .bool true, .int .i64 9, .int .i64 0, .int .i64 0, .int .i64 0, .int .i64 0] 34))) := Lib.hid (Lows.alloc L3.out _)
  have PE0 : Hid (Peers (w3.alloc (.cells #[.bool false, .int .u64 0, .int .u64 167837697, .int .i64 1005, .bool true, .int .i64 5, .int .i64 0, .int .i64 0, .int .i64 0, .int .i64 0, .bool false, .int .u64 0, .int .u64 167903233, .int .i64 1020, .bool true, .int .i64 20, .int .i64 0, .int .i64 0, .int .i64 0, .int .i64 0, .bool false, .int .u64 0, .int .u64 167837697, .int .i64 1009, .bool true, .int .i64 9, .int .i64 0, .int .i64 0, .int .i64 0, .int .i64 0] 34)) (.slice (some ⟨w3.heap.size, 0, none⟩) 3 3) l20) := Lib.hid (Recs.lit (k := 10) (enc := encP) (fun _ => rfl) w3 l20 #[.bool false, .int .u64 0, .int .u64 167837697, .int .i64 1005, .bool true, .int .i64 5, .int .i64 0, .int .i64 0, .int .i64 0, .int .i64 0, .bool false, .int .u64 0, .int .u64 167903233, .int .i64 1020, .bool true, .int .i64 20, .int .i64 0, .int .i64 0, .int .i64 0, .int .i64 0, .bool false, .int .u64 0, .int .u64 167837697, .int .i64 1009, .bool true, .int .i64 9, .int .i64 0, .int .i64 0, .int .i64 0, .int .i64 0] 34 rfl)
  have HB0 := Lib.hid (Blk.new w3 #[.bool false, .int .u64 0, .int .u64 167837697, .int .i64 1005, .bool true, .int .i64 5, .int .i64 0, .int .i64 0, .int .i64 0, .int .i64 0, .bool false, .int .u64 0, .int .u64 167903233, .int .i64 1020, .bool true, .int .i64 20, .int .i64 0, .int .i64 0, .int .i64 0, .int .i64 0, .bool false, .int .u64 0, .int .u64 167837697, .int .i64 1009, .bool true, .int .i64 9, .int .i64 0, .int .i64 0, .int .i64 0, .int .i64 0] 34)
  clear hb3 L2 L3 A1 A2 A3
  go_wp2_with fail
  generalize w3.alloc (.cells #[.bool false, .int .u64 0, .int .u64 167837697, .int .i64 1005, .bool true, .int .i64 5, .int .i64 0, .int .i64 0, .int .i64 0, .int .i64 0, .bool false, .int .u64 0, .int .u64 167903233, .int .i64 1020, .bool true, .int .i64 20, .int .i64 0, .int .i64 0, .int .i64 0, .int .i64 0, .bool false, .int .u64 0, .int .u64 167837697, .int .i64 1009, .bool true, .int .i64 9, .int .i64 0, .int .i64 0, .int .i64 0, .int .i64 0] 34) = w4 at L4 PE0 HB0 ⊢
  have PP : Hid (∀ X, Lows w4 X → Calls Try.prog 10 #[.slice (some ⟨w3.heap.size, 0, none⟩) 3 3] X fun e w' => e = .returned (.int .i64 2) ∧ Lows w4 w') := Lib.hid fun X h => (P1.out X _ (PE0.out.below h)).mono fun e w' ⟨he, hb⟩ => ⟨he, low_trans h hb⟩
  have KK : Hid (∀ X, Lows w4 X → Calls Try.prog 6 #[.slice (some ⟨w3.heap.size, 0, none⟩) 3 3, .int .i64 0] X fun e w' => e = .returned (.int .i64 2) ∧ Lows w4 w') := Lib.hid fun X h => (K1.out X _ (PE0.out.below h)).mono fun e w' ⟨he, hb⟩ => ⟨he, low_trans h hb⟩
  clear P1 K1 PE0
  have hne : Nonempty (Cls (Lows w4)) := ⟨⟨_, Lows.self _⟩⟩
  have f0 : ∀ nq : Cls (Lows w4), nq.w.cell? ⟨w3.heap.size, 0, none⟩ = some (.bool false) := fun nq => Blk.in HB0 nq.h rfl
  have f1 : ∀ nq : Cls (Lows w4), nq.w.cell? ⟨w3.heap.size, 1, none⟩ = some (.int .u64 0) := fun nq => Blk.in HB0 nq.h rfl
  have f2 : ∀ nq : Cls (Lows w4), nq.w.cell? ⟨w3.heap.size, 2, none⟩ = some (.int .u64 167837697) := fun nq => Blk.in HB0 nq.h rfl
  have f3 : ∀ nq : Cls (Lows w4), nq.w.cell? ⟨w3.heap.size, 3, none⟩ = some (.int .i64 1005) := fun nq => Blk.in HB0 nq.h rfl
  have f4 : ∀ nq : Cls (Lows w4), nq.w.cell? ⟨w3.heap.size, 4, none⟩ = some (.bool true) := fun nq => Blk.in HB0 nq.h rfl
  have f5 : ∀ nq : Cls (Lows w4), nq.w.cell? ⟨w3.heap.size, 5, none⟩ = some (.int .i64 5) := fun nq => Blk.in HB0 nq.h rfl
  have f6 : ∀ nq : Cls (Lows w4), nq.w.cell? ⟨w3.heap.size, 6, none⟩ = some (.int .i64 0) := fun nq => Blk.in HB0 nq.h rfl
  have f7 : ∀ nq : Cls (Lows w4), nq.w.cell? ⟨w3.heap.size, 7, none⟩ = some (.int .i64 0) := fun nq => Blk.in HB0 nq.h rfl
  have f8 : ∀ nq : Cls (Lows w4), nq.w.cell? ⟨w3.heap.size, 8, none⟩ = some (.int .i64 0) := fun nq => Blk.in HB0 nq.h rfl
  have f9 : ∀ nq : Cls (Lows w4), nq.w.cell? ⟨w3.heap.size, 9, none⟩ = some (.int .i64 0) := fun nq => Blk.in HB0 nq.h rfl
  have f10 : ∀ nq : Cls (Lows w4), nq.w.cell? ⟨w3.heap.size, 10, none⟩ = some (.bool false) := fun nq => Blk.in HB0 nq.h rfl
  have f11 : ∀ nq : Cls (Lows w4), nq.w.cell? ⟨w3.heap.size, 11, none⟩ = some (.int .u64 0) := fun nq => Blk.in HB0 nq.h rfl
  have f12 : ∀ nq : Cls (Lows w4), nq.w.cell? ⟨w3.heap.size, 12, none⟩ = some (.int .u64 167903233) := fun nq => Blk.in HB0 nq.h rfl
  have f13 : ∀ nq : Cls (Lows w4), nq.w.cell? ⟨w3.heap.size, 13, none⟩ = some (.int .i64 1020) := fun nq => Blk.in HB0 nq.h rfl
  have f14 : ∀ nq : Cls (Lows w4), nq.w.cell? ⟨w3.heap.size, 14, none⟩ = some (.bool true) := fun nq => Blk.in HB0 nq.h rfl
  have f15 : ∀ nq : Cls (Lows w4), nq.w.cell? ⟨w3.heap.size, 15, none⟩ = some (.int .i64 20) := fun nq => Blk.in HB0 nq.h rfl
  have f16 : ∀ nq : Cls (Lows w4), nq.w.cell? ⟨w3.heap.size, 16, none⟩ = some (.int .i64 0) := fun nq => Blk.in HB0 nq.h rfl
  have f17 : ∀ nq : Cls (Lows w4), nq.w.cell? ⟨w3.heap.size, 17, none⟩ = some (.int .i64 0) := fun nq => Blk.in HB0 nq.h rfl
  have f18 : ∀ nq : Cls (Lows w4), nq.w.cell? ⟨w3.heap.size, 18, none⟩ = some (.int .i64 0) := fun nq => Blk.in HB0 nq.h rfl
  have f19 : ∀ nq : Cls (Lows w4), nq.w.cell? ⟨w3.heap.size, 19, none⟩ = some (.int .i64 0) := fun nq => Blk.in HB0 nq.h rfl
  refine Cls.region (Lows w4) (by kernel_rfl) (by kernel_rfl) (low_drewN (Below.refl _ _) 1) ?_
  (try dsimp only [List.append])
  repeat (go_big_quiet_step (first | fail | (with_reducible exact Cls.call (PP.out _ (Cls.h _))) | (with_reducible exact Cls.call (KK.out _ (Cls.h _))) | (with_reducible exact Cls.call ((lows_call Y1).out _ (Cls.h _))) | (with_reducible exact Cls.call ((lows_call P2).out _ (Cls.h _)))))
  refine wpQuiet_nil ?_
  intro n9
  have hk9 := n9.h
  generalize n9.w = w9 at hk9 ⊢
  clear hne n9 f0 f1 f2 f3 f4 f5 f6 f7 f8 f9 f10 f11 f12 f13 f14 f15 f16 f17 f18 f19
  go_wp2_with fail
  go_ret
  exact ⟨rfl, low_trans L4.out hk9⟩
end Go.Proofs.Ytanphaahcmfkcaa
