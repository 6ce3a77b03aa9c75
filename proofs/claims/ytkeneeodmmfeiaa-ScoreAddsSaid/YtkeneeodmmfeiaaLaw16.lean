/- The statements of layer 16 (score), proved: what they share. -/
import Derived.Test.YtkeneeodmmfeiaaScore
import Derived.Test.YtkeneeodmmfeiaaDoor
import Derived.Test.YtkeneeodmmfeiaaKit
import Derived.Test.YtkeneeodmmfeiaaTwoDoor
import Derived.Deep.RegionHeld3
import Derived.Deep.DeepCutAuto
namespace Go.Proofs.Ytkeneeodmmfeiaa
set_option maxRecDepth 100000
open Go.ChangeShapes Go.WideShapes Go.ChangeAt Go.RowKit
open Ha Go.Deep
set_option linter.unusedVariables false
theorem cells_kept {W w' : World} (h : Below W.heap.size W w') {b o : Nat} {v : Value} (hc : W.cell? ⟨b, o, none⟩ = some v) : w'.cell? ⟨b, o, none⟩ = some v :=
  (h.cell (p := ⟨b, o, none⟩) (World.block_lt_of_cell? _ _ hc)).trans hc
theorem ex1 : addS ⟨0, 0⟩ 50 10 5 = ⟨3276800, 0⟩ := by kernel_rfl
theorem ex2 : addS ⟨3276800, 0⟩ 50 10 5 = ⟨6553600, 0⟩ := by kernel_rfl
theorem ex3 : penS 4 = 50 := by kernel_rfl
theorem ex4 : overS ⟨3276800, 0⟩ 100 = false := by kernel_rfl
theorem ex5 : overS ⟨6553600, 0⟩ 100 = true := by kernel_rfl
theorem ex6 : wholeS ⟨6553600, 0⟩ = 100 := by kernel_rfl
theorem ex7 : (⟨6553600, 0⟩ : Sc).ok := by refine ⟨⟨?_, ?_⟩, ?_, ?_⟩ <;> decide
/-- The two boxes, in a world. -/
abbrev SA16 (a : Nat) (W0 : World) (w' : World) : Prop := w'.cell? ⟨a, 0, none⟩ = some (.int .i64 3276800) ∧ w'.cell? ⟨a, 1, none⟩ = some (.int .i64 0) ∧ Below W0.heap.size W0 w'
abbrev SW16 (a b : Nat) (W0 : World) (w' : World) : Prop := w'.cell? ⟨a, 0, none⟩ = some (.int .i64 3276800) ∧ w'.cell? ⟨a, 1, none⟩ = some (.int .i64 0) ∧ w'.cell? ⟨b, 0, none⟩ = some (.int .i64 6553600) ∧ w'.cell? ⟨b, 1, none⟩ = some (.int .i64 0) ∧ Below W0.heap.size W0 w'
set_option maxHeartbeats 4000000 in
theorem awake16_any (w : World) : Calls Try.prog 13 #[] w fun e w' => e = .returned (.bool true) ∧ Below w.heap.size w w' := by
  have P := Lib.hid (fun W => by have h := penalty_any 4 W; rwa [ex3] at h)
  have A1 := Lib.hid (fun W => by have h := addS_any ⟨0, 0⟩ 50 10 5 W; rwa [ex1] at h)
  have A2 := Lib.hid (fun W => by have h := addS_any ⟨3276800, 0⟩ 50 10 5 W; rwa [ex2] at h)
  have R1 := Lib.hid (fun W => by have h := reached_any ⟨3276800, 0⟩ 100 W; rwa [ex4] at h)
  have R2 := Lib.hid (fun W => by have h := reached_any ⟨6553600, 0⟩ 100 W; rwa [ex5] at h)
  have WH := Lib.hid (fun W => by have h := whole_any ⟨6553600, 0⟩ ex7 W; rwa [ex6] at h)
  simp only [] at A1 A2 R1 R2 WH
  go_enter Try.func13, Try.ntmps13
  go_wp2_with fail
  refine (P.out _).mono ?_
  rintro e w1 ⟨rfl, rfl⟩
  go_wp2_with fail
  refine (A1.out _).mono ?_
  rintro e w1 ⟨rfl, hb1⟩
  have LOW0 := Lib.hid (low_trans hb1 ((Below.refl _ w1).alloc (Nat.le_refl _) (.cells #[.int .i64 3276800, .int .i64 0] 23)))
  have OA := Lib.hid (Blk.new w1 #[.int .i64 3276800, .int .i64 0] 23)
  have LL : Hid (Below w1.heap.size w1 (w1.alloc (.cells #[.int .i64 3276800, .int .i64 0] 23))) := Lib.hid ((Below.refl _ w1).alloc (Nat.le_refl _) _)
  clear hb1
  go_upto_region 2 with fail
  go_cut [2] (fun s2 wx => ∃ g : Nat, s2 = .pointer (some ⟨g, 0, none⟩) ∧ Blk wx g 23 [.int .i64 6553600, .int .i64 0] ∧ Below (w1.alloc (.cells #[.int .i64 3276800, .int .i64 0] 23)).heap.size (w1.alloc (.cells #[.int .i64 3276800, .int .i64 0] 23)) wx)
  case first =>
    have IN : Hid (∀ W, Below (w1.alloc (.cells #[.int .i64 3276800, .int .i64 0] 23)).heap.size (w1.alloc (.cells #[.int .i64 3276800, .int .i64 0] 23)) W → SA16 w1.heap.size (w1.alloc (.cells #[.int .i64 3276800, .int .i64 0] 23)) W) := Lib.hid fun W h => ⟨(OA.out.on h).cell rfl, (OA.out.on h).cell rfl, h⟩
    have JD : Hid (∀ W, SA16 w1.heap.size (w1.alloc (.cells #[.int .i64 3276800, .int .i64 0] 23)) W → SA16 w1.heap.size (w1.alloc (.cells #[.int .i64 3276800, .int .i64 0] 23)) W.drew) := Lib.hid fun W h => IN.out _ (low_drewN h.2.2 1)
    have JA : Hid (∀ W o, SA16 w1.heap.size (w1.alloc (.cells #[.int .i64 3276800, .int .i64 0] 23)) W → SA16 w1.heap.size (w1.alloc (.cells #[.int .i64 3276800, .int .i64 0] 23)) (W.alloc o)) := Lib.hid fun W o h => IN.out _ (Below.alloc h.2.2 h.2.2.size o)
    have JS : Hid (∀ W c j u, SA16 w1.heap.size (w1.alloc (.cells #[.int .i64 3276800, .int .i64 0] 23)) W → (w1.alloc (.cells #[.int .i64 3276800, .int .i64 0] 23)).heap.size ≤ c → SA16 w1.heap.size (w1.alloc (.cells #[.int .i64 3276800, .int .i64 0] 23)) (W.setCell ⟨c, j, none⟩ u)) := Lib.hid fun W c j u h hc => IN.out _ (h.2.2.setCell hc u)
    have K : Hid (∀ W, SA16 w1.heap.size (w1.alloc (.cells #[.int .i64 3276800, .int .i64 0] 23)) W → Calls Try.prog 7 #[.agg #[.int .i64 3276800, .int .i64 0], .int .i64 50, .int .i64 10, .int .i64 5] W fun e w' => e = .returned (.agg #[.int .i64 6553600, .int .i64 0]) ∧ Below W.heap.size W w' ∧ SA16 w1.heap.size (w1.alloc (.cells #[.int .i64 3276800, .int .i64 0] 23)) w') := Lib.hid fun W h => (A2.out W).mono fun e w' ⟨he, hb⟩ => ⟨he, hb, IN.out _ (low_trans h.2.2 hb)⟩
    have hk0 := IN.out _ (Below.refl _ _)
    go_region_held3 (fun w' => w'.cell? ⟨w1.heap.size, 0, none⟩ = some (.int .i64 3276800) ∧ w'.cell? ⟨w1.heap.size, 1, none⟩ = some (.int .i64 0) ∧ Below (w1.alloc (.cells #[.int .i64 3276800, .int .i64 0] 23)).heap.size (w1.alloc (.cells #[.int .i64 3276800, .int .i64 0] 23)) w')
      (first | (with_reducible assumption) | (with_reducible exact JD.out _ (by assumption)) | (with_reducible exact JA.out _ _ (by assumption)) | (with_reducible exact JD.out _ (JA.out _ _ (by assumption))) | ((iterate 2 (with_reducible refine JS.out _ _ _ _ ?_ (by first | exact Nat.le_refl _ | simp))); (with_reducible assumption)))
      (first
        | (go_at_call 5; (with_reducible refine (P.out _).mono ?_); rintro e w8 ⟨rfl, rfl⟩)
        | (go_at_call 7; (with_reducible refine (K.out _ (by assumption)).mono ?_); rintro e w8 ⟨rfl, hb8, hk8⟩; obtain ⟨hc8, hf8⟩ := old hb8))
    · have hs8 := hk8.2.2
      go_wp2_with fail
      go_meet
      exact ⟨w8.heap.size, rfl, Blk.new w8 _ _, Below.alloc hs8 hs8.size _⟩
    all_goals
      have hs8 := hk8.2.2
      have ho := (show Blk ((w1.alloc (.cells #[.int .i64 3276800, .int .i64 0] 23)).alloc (.cells #[.int .i64 0, .int .i64 0] 23)).drew (w1.alloc (.cells #[.int .i64 3276800, .int .i64 0] 23)).heap.size 23 [.int .i64 0, .int .i64 0] from Blk.new (w1.alloc (.cells #[.int .i64 3276800, .int .i64 0] 23)) _ _).on hb8
      go_wp2_with fail
      go_meet
      exact ⟨(w1.alloc (.cells #[.int .i64 3276800, .int .i64 0] 23)).heap.size, by simp, by simpa using (ho.set 0 (.int .i64 6553600)).set 1 (.int .i64 0), (hs8.setCell (by simp) _).setCell (by simp) _⟩
  case rest =>
    obtain ⟨g, rfl, ho, hlow⟩ := hcut
    have OB := Lib.hid ho
    have LOW1 := Lib.hid (low_trans LOW0.out hlow)
    have OC := Lib.hid (OA.out.on hlow)
    have IN : Hid (∀ W, Below wc.heap.size wc W → SW16 w1.heap.size g wc W) := Lib.hid fun W h => ⟨(OC.out.on h).cell rfl, (OC.out.on h).cell rfl, (OB.out.on h).cell rfl, (OB.out.on h).cell rfl, h⟩
    clear ho hlow
    have K1 : Hid (∀ W, SW16 w1.heap.size g wc W → Calls Try.prog 9 #[.agg #[.int .i64 3276800, .int .i64 0], .int .i64 100] W fun e w' => e = .returned (.bool false) ∧ SW16 w1.heap.size g wc w') := Lib.hid fun W k => (R1.out W).mono fun e w' ⟨he, hb⟩ => ⟨he, IN.out _ (low_trans k.2.2.2.2 hb)⟩
    have K2 : Hid (∀ W, SW16 w1.heap.size g wc W → Calls Try.prog 9 #[.agg #[.int .i64 6553600, .int .i64 0], .int .i64 100] W fun e w' => e = .returned (.bool true) ∧ SW16 w1.heap.size g wc w') := Lib.hid fun W k => (R2.out W).mono fun e w' ⟨he, hb⟩ => ⟨he, IN.out _ (low_trans k.2.2.2.2 hb)⟩
    have K3 : Hid (∀ W, SW16 w1.heap.size g wc W → Calls Try.prog 11 #[.agg #[.int .i64 6553600, .int .i64 0]] W fun e w' => e = .returned (.int .i64 100) ∧ SW16 w1.heap.size g wc w') := Lib.hid fun W k => (WH.out W).mono fun e w' ⟨he, hb⟩ => ⟨he, IN.out _ (low_trans k.2.2.2.2 hb)⟩
    have hk0 := IN.out _ (Below.refl _ _)
    obtain ⟨b0, b1, b2, b3, hb⟩ := id hk0
    go_wp2_with fail
    refine (K1.out _ hk0).mono ?_
    rintro e w2 ⟨rfl, hk2⟩
    obtain ⟨c0, c1, c2, c3, hc⟩ := id hk2
    go_wp2_with fail
    refine (K2.out _ hk2).mono ?_
    rintro e w3 ⟨rfl, hk3⟩
    obtain ⟨d0, d1, d2, d3, hd⟩ := id hk3
    go_wp2_with fail
    refine (K3.out _ hk3).mono ?_
    rintro e w4 ⟨rfl, hk4⟩
    go_wp2
    go_ret
    exact ⟨rfl, low_trans LOW1.out hk4.2.2.2.2⟩
end Go.Proofs.Ytkeneeodmmfeiaa
