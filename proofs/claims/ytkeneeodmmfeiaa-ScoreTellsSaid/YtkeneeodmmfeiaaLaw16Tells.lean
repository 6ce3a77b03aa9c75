/- The first statement of layer 16, proved: any points, any score, any tick, any limit. -/
import Derived.Test.YtkeneeodmmfeiaaLaw16
namespace Go.Proofs.Ytkeneeodmmfeiaa
set_option maxRecDepth 100000
open Go.ChangeShapes Go.WideShapes Go.ChangeAt Go.RowKit
open Ha Go.Deep
set_option linter.unusedVariables false
abbrev ST16 (s : Sc) (i j : Int) (n0 n1 : Nat) (W0 : World) (w' : World) : Prop := w'.cell? ⟨n0, 0, none⟩ = some (.int .i64 s.p) ∧ w'.cell? ⟨n0, 1, none⟩ = some (.int .i64 s.a) ∧ w'.cell? ⟨n1, 0, none⟩ = some (.int .i64 i) ∧ w'.cell? ⟨n1, 1, none⟩ = some (.int .i64 j) ∧ Below W0.heap.size W0 w'
set_option maxHeartbeats 8000000 in
theorem scoreTells_walk (w : World) (s : Sc) (hs : s.ok) (n : Int) (hn : -9223372036854775808 ≤ n ∧ n ≤ 9223372036854775807) (i j : Int) (hi : -9223372036854775808 ≤ i ∧ i ≤ 9223372036854775807) (hj : -9223372036854775808 ≤ j ∧ j ≤ 9223372036854775807) :
    Calls Try.prog 3 #[.agg #[.int .i64 s.p, .int .i64 s.a], .int .i64 n, .agg #[.int .i64 i, .int .i64 j]] w fun e w' => e = .returned (.bool true) ∧ Below w.heap.size w w' := by
  obtain ⟨d, hd⟩ : ∃ d, d = addS s n i j := ⟨_, rfl⟩
  have C1 := Lib.hid (fun W => penalty_any n W)
  have C2 := Lib.hid (fun W => rpenalty_any n W)
  have C3 := Lib.hid (fun W => by have k := addS_any s n i j W; rwa [← hd] at k)
  have C4 := Lib.hid (fun W => by have k := raddS_any s n i j W; rwa [← hd] at k)
  have C5 := Lib.hid (fun W => reached_any s n W)
  have C6 := Lib.hid (fun W => rreached_any s hs n W)
  have C7 := Lib.hid (fun W => whole_any s hs W)
  have C8 := Lib.hid (fun W => rwhole_any s hs W)
  have AW := Lib.hid (fun W => awake16_any W)
  have EQ := fun W => eq_self d W
  generalize penS n = pn at *
  generalize overS s n = on at *
  generalize wholeS s = ws at *
  clear hd hs hn hi hj
  have L0 : Hid (Below w.heap.size w ((w.alloc (.cells #[.int .i64 s.p, .int .i64 s.a] 23)).alloc (.cells #[.int .i64 i, .int .i64 j] 24))) := Lib.hid (((Below.refl _ _).alloc (Nat.le_refl _) _).alloc (by simp) _)
  have OA := Lib.hid ((Blk.new w #[.int .i64 s.p, .int .i64 s.a] 23).alloc (.cells #[.int .i64 i, .int .i64 j] 24))
  have OB : Hid (Blk ((w.alloc (.cells #[.int .i64 s.p, .int .i64 s.a] 23)).alloc (.cells #[.int .i64 i, .int .i64 j] 24)) (w.heap.size + 1) 24 [.int .i64 i, .int .i64 j]) := Lib.hid (by have k := Blk.new (w.alloc (.cells #[.int .i64 s.p, .int .i64 s.a] 23)) #[.int .i64 i, .int .i64 j] 24; rwa [show (w.alloc (.cells #[.int .i64 s.p, .int .i64 s.a] 23)).heap.size = w.heap.size + 1 from by simp] at k)
  have IN : Hid (∀ W, Below ((w.alloc (.cells #[.int .i64 s.p, .int .i64 s.a] 23)).alloc (.cells #[.int .i64 i, .int .i64 j] 24)).heap.size ((w.alloc (.cells #[.int .i64 s.p, .int .i64 s.a] 23)).alloc (.cells #[.int .i64 i, .int .i64 j] 24)) W → ST16 s i j w.heap.size (w.heap.size + 1) ((w.alloc (.cells #[.int .i64 s.p, .int .i64 s.a] 23)).alloc (.cells #[.int .i64 i, .int .i64 j] 24)) W) := Lib.hid fun W h => ⟨(OA.out.on h).cell rfl, (OA.out.on h).cell rfl, (OB.out.on h).cell rfl, (OB.out.on h).cell rfl, h⟩
  have hk0 := IN.out _ (Below.refl _ _)
  have hk1 := IN.out _ (low_drewN (Below.refl _ _) 1)
  have K1 : Hid (∀ W, ST16 s i j w.heap.size (w.heap.size + 1) ((w.alloc (.cells #[.int .i64 s.p, .int .i64 s.a] 23)).alloc (.cells #[.int .i64 i, .int .i64 j] 24)) W → Calls Try.prog 5 #[.int .i64 n] W fun e w' => e = .returned (.int .i64 pn) ∧ ST16 s i j w.heap.size (w.heap.size + 1) ((w.alloc (.cells #[.int .i64 s.p, .int .i64 s.a] 23)).alloc (.cells #[.int .i64 i, .int .i64 j] 24)) w') := Lib.hid fun W k => (C1.out W).mono fun e w' ⟨he, hb⟩ => ⟨he, hb ▸ k⟩
  have K2 : Hid (∀ W, ST16 s i j w.heap.size (w.heap.size + 1) ((w.alloc (.cells #[.int .i64 s.p, .int .i64 s.a] 23)).alloc (.cells #[.int .i64 i, .int .i64 j] 24)) W → Calls Try.prog 6 #[.int .i64 n] W fun e w' => e = .returned (.int .i64 pn) ∧ ST16 s i j w.heap.size (w.heap.size + 1) ((w.alloc (.cells #[.int .i64 s.p, .int .i64 s.a] 23)).alloc (.cells #[.int .i64 i, .int .i64 j] 24)) w') := Lib.hid fun W k => (C2.out W).mono fun e w' ⟨he, hb⟩ => ⟨he, hb ▸ k⟩
  have K3 : Hid (∀ W, ST16 s i j w.heap.size (w.heap.size + 1) ((w.alloc (.cells #[.int .i64 s.p, .int .i64 s.a] 23)).alloc (.cells #[.int .i64 i, .int .i64 j] 24)) W → Calls Try.prog 7 #[.agg #[.int .i64 s.p, .int .i64 s.a], .int .i64 n, .int .i64 i, .int .i64 j] W fun e w' => e = .returned (.agg #[.int .i64 d.p, .int .i64 d.a]) ∧ ST16 s i j w.heap.size (w.heap.size + 1) ((w.alloc (.cells #[.int .i64 s.p, .int .i64 s.a] 23)).alloc (.cells #[.int .i64 i, .int .i64 j] 24)) w') := Lib.hid fun W k => (C3.out W).mono fun e w' ⟨he, hb⟩ => ⟨he, IN.out _ (low_trans k.2.2.2.2 hb)⟩
  have K4 : Hid (∀ W, ST16 s i j w.heap.size (w.heap.size + 1) ((w.alloc (.cells #[.int .i64 s.p, .int .i64 s.a] 23)).alloc (.cells #[.int .i64 i, .int .i64 j] 24)) W → Calls Try.prog 8 #[.agg #[.int .i64 s.p, .int .i64 s.a], .int .i64 n, .int .i64 i, .int .i64 j] W fun e w' => e = .returned (.agg #[.int .i64 d.p, .int .i64 d.a]) ∧ ST16 s i j w.heap.size (w.heap.size + 1) ((w.alloc (.cells #[.int .i64 s.p, .int .i64 s.a] 23)).alloc (.cells #[.int .i64 i, .int .i64 j] 24)) w') := Lib.hid fun W k => (C4.out W).mono fun e w' ⟨he, hb⟩ => ⟨he, IN.out _ (low_trans k.2.2.2.2 hb)⟩
  have K5 : Hid (∀ W, ST16 s i j w.heap.size (w.heap.size + 1) ((w.alloc (.cells #[.int .i64 s.p, .int .i64 s.a] 23)).alloc (.cells #[.int .i64 i, .int .i64 j] 24)) W → Calls Try.prog 9 #[.agg #[.int .i64 s.p, .int .i64 s.a], .int .i64 n] W fun e w' => e = .returned (.bool on) ∧ ST16 s i j w.heap.size (w.heap.size + 1) ((w.alloc (.cells #[.int .i64 s.p, .int .i64 s.a] 23)).alloc (.cells #[.int .i64 i, .int .i64 j] 24)) w') := Lib.hid fun W k => (C5.out W).mono fun e w' ⟨he, hb⟩ => ⟨he, IN.out _ (low_trans k.2.2.2.2 hb)⟩
  have K6 : Hid (∀ W, ST16 s i j w.heap.size (w.heap.size + 1) ((w.alloc (.cells #[.int .i64 s.p, .int .i64 s.a] 23)).alloc (.cells #[.int .i64 i, .int .i64 j] 24)) W → Calls Try.prog 10 #[.agg #[.int .i64 s.p, .int .i64 s.a], .int .i64 n] W fun e w' => e = .returned (.bool on) ∧ ST16 s i j w.heap.size (w.heap.size + 1) ((w.alloc (.cells #[.int .i64 s.p, .int .i64 s.a] 23)).alloc (.cells #[.int .i64 i, .int .i64 j] 24)) w') := Lib.hid fun W k => (C6.out W).mono fun e w' ⟨he, hb⟩ => ⟨he, IN.out _ (low_trans k.2.2.2.2 hb)⟩
  have K7 : Hid (∀ W, ST16 s i j w.heap.size (w.heap.size + 1) ((w.alloc (.cells #[.int .i64 s.p, .int .i64 s.a] 23)).alloc (.cells #[.int .i64 i, .int .i64 j] 24)) W → Calls Try.prog 11 #[.agg #[.int .i64 s.p, .int .i64 s.a]] W fun e w' => e = .returned (.int .i64 ws) ∧ ST16 s i j w.heap.size (w.heap.size + 1) ((w.alloc (.cells #[.int .i64 s.p, .int .i64 s.a] 23)).alloc (.cells #[.int .i64 i, .int .i64 j] 24)) w') := Lib.hid fun W k => (C7.out W).mono fun e w' ⟨he, hb⟩ => ⟨he, IN.out _ (low_trans k.2.2.2.2 hb)⟩
  have K8 : Hid (∀ W, ST16 s i j w.heap.size (w.heap.size + 1) ((w.alloc (.cells #[.int .i64 s.p, .int .i64 s.a] 23)).alloc (.cells #[.int .i64 i, .int .i64 j] 24)) W → Calls Try.prog 12 #[.agg #[.int .i64 s.p, .int .i64 s.a]] W fun e w' => e = .returned (.int .i64 ws) ∧ ST16 s i j w.heap.size (w.heap.size + 1) ((w.alloc (.cells #[.int .i64 s.p, .int .i64 s.a] 23)).alloc (.cells #[.int .i64 i, .int .i64 j] 24)) w') := Lib.hid fun W k => (C8.out W).mono fun e w' ⟨he, hb⟩ => ⟨he, IN.out _ (low_trans k.2.2.2.2 hb)⟩
  have K9 : Hid (∀ W, ST16 s i j w.heap.size (w.heap.size + 1) ((w.alloc (.cells #[.int .i64 s.p, .int .i64 s.a] 23)).alloc (.cells #[.int .i64 i, .int .i64 j] 24)) W → Calls Try.prog 13 #[] W fun e w' => e = .returned (.bool true) ∧ ST16 s i j w.heap.size (w.heap.size + 1) ((w.alloc (.cells #[.int .i64 s.p, .int .i64 s.a] 23)).alloc (.cells #[.int .i64 i, .int .i64 j] 24)) w') := Lib.hid fun W k => (AW.out W).mono fun e w' ⟨he, hb⟩ => ⟨he, IN.out _ (low_trans k.2.2.2.2 hb)⟩
  clear IN OA OB C1 C2 C3 C4 C5 C6 C7 C8 AW
  go_enter Try.func3, Try.ntmps3
  go_wp2_with fail
  have hne : Nonempty (Cls (ST16 s i j w.heap.size (w.heap.size + 1) ((w.alloc (.cells #[.int .i64 s.p, .int .i64 s.a] 23)).alloc (.cells #[.int .i64 i, .int .i64 j] 24)))) := ⟨⟨_, hk0⟩⟩
  have f0 : ∀ q : Cls (ST16 s i j w.heap.size (w.heap.size + 1) ((w.alloc (.cells #[.int .i64 s.p, .int .i64 s.a] 23)).alloc (.cells #[.int .i64 i, .int .i64 j] 24))), q.w.cell? ⟨w.heap.size, 0, none⟩ = some (.int .i64 s.p) := fun q => q.h.1
  have f1 : ∀ q : Cls (ST16 s i j w.heap.size (w.heap.size + 1) ((w.alloc (.cells #[.int .i64 s.p, .int .i64 s.a] 23)).alloc (.cells #[.int .i64 i, .int .i64 j] 24))), q.w.cell? ⟨w.heap.size, 1, none⟩ = some (.int .i64 s.a) := fun q => q.h.2.1
  have f2 : ∀ q : Cls (ST16 s i j w.heap.size (w.heap.size + 1) ((w.alloc (.cells #[.int .i64 s.p, .int .i64 s.a] 23)).alloc (.cells #[.int .i64 i, .int .i64 j] 24))), q.w.cell? ⟨w.heap.size + 1, 0, none⟩ = some (.int .i64 i) := fun q => q.h.2.2.1
  have f3 : ∀ q : Cls (ST16 s i j w.heap.size (w.heap.size + 1) ((w.alloc (.cells #[.int .i64 s.p, .int .i64 s.a] 23)).alloc (.cells #[.int .i64 i, .int .i64 j] 24))), q.w.cell? ⟨w.heap.size + 1, 1, none⟩ = some (.int .i64 j) := fun q => q.h.2.2.2.1
  refine Cls.region (ST16 s i j w.heap.size (w.heap.size + 1) ((w.alloc (.cells #[.int .i64 s.p, .int .i64 s.a] 23)).alloc (.cells #[.int .i64 i, .int .i64 j] 24))) (by kernel_rfl) (by kernel_rfl) (hk1) ?_
  repeat (go_big_quiet_step (first | (with_reducible exact Cls.call (K1.out _ (Cls.h _))) | (with_reducible exact Cls.call (K2.out _ (Cls.h _))) | (with_reducible exact Cls.call (K3.out _ (Cls.h _))) | (with_reducible exact Cls.call (K4.out _ (Cls.h _))) | (with_reducible exact Cls.call (K5.out _ (Cls.h _))) | (with_reducible exact Cls.call (K6.out _ (Cls.h _))) | (with_reducible exact Cls.call (K7.out _ (Cls.h _))) | (with_reducible exact Cls.call (K8.out _ (Cls.h _))) | (with_reducible exact Cls.call (K9.out _ (Cls.h _)))))
  refine wpQuiet_nil ?_
  intro n9
  have hk9 := n9.h
  generalize n9.w = w9 at hk9 ⊢
  clear hne n9 f0 f1 f2 f3
  go_wp2
  go_ret
  exact ⟨rfl, low_trans L0.out hk9.2.2.2.2⟩
namespace scoreTells
theorem contract (H : Type) (enc : TypeId × Value → H) (W : World) (base : Nat) (args : Array Value) (ds gs : List (DataW H)) (before : List MemPlace)
    (hval0 : ∀ (j : Nat) t v, Try.f3.params[j]? = some t → args[j]? = some v → Value.okWide Try.prog W .any base t v)
    (hW : DataW.Whole enc Try.prog Try.f3.params.toList Rows.scoreTellsSpec.vars false W args.toList ds gs before) (hSh : W.ShapedOpen Try.prog) :
    Calls Try.prog 3 args W fun e W' => ∃ v, e = .returned v ∧ Rows.scoreTellsSpec.post enc Try.prog Try.f3 false true false false W args v W' := by
  have hval : ∀ (j : Nat) t v, Try.f3.params[j]? = some t → args[j]? = some v → Value.okWide Try.prog W .any base t v := hval0
  have hW' := hW
  obtain ⟨p, q, hA0, hV, _, _, _⟩ := hW
  have hA : DataW.TrodAll enc Try.prog W 0 (fun _ => true) true Try.f3.params.toList args.toList ds p := hA0
  rw [Try.params3] at hA hval
  obtain ⟨v0, vs0, d0, ds0, p0, q0, hargs, rfl, rfl, h0, r0⟩ := trodAll_cons hA
  obtain ⟨v1, vs1, d1, ds1, p1, q1, rfl, rfl, rfl, h1, r1⟩ := trodAll_cons r0
  obtain ⟨v2, vs2, d2, ds2, p2, q2, rfl, rfl, rfl, h2, r2⟩ := trodAll_cons r1
  obtain ⟨rfl, rfl, rfl⟩ := trodAll_nil r2
  obtain rfl : args = #[v0, v1, v2] := by cases args; simp_all
  obtain ⟨rfl, rfl⟩ := trodVars_none hV
  obtain ⟨i0, j0, y0, z0, rfl⟩ := open_score (hval 0 23 v0 rfl rfl) h0
  obtain ⟨b1, rfl, rfl, rfl, w1⟩ := open_int Try.underlying3 (hval 1 3 v1 rfl rfl) h1
  obtain ⟨i2, j2, y2, z2, rfl⟩ := open_two (hval 2 24 v2 rfl rfl) h2
  clear hA0 hval0
  refine (scoreTells_walk W ⟨i0, j0⟩ ⟨y0, z0⟩ b1 (wf64 w1) i2 j2 y2 z2).mono fun e W' ⟨he, hg⟩ => ?_
  subst he
  exact ⟨_, rfl, post_law laidOut (by kernel_rfl) (by kernel_rfl) Try.underlying4 rfl hW' rfl rfl rfl hg⟩
set_option maxRecDepth 100000 in
theorem lifted (os : Os) (started : os.Started) (H : Type) (enc : TypeId × Value → H) (F : Stop.Interp) :
    ReturnsInHanded {} Try.checked os 3 .any ((OpenSpec.ofChange Rows.scoreTellsSpec).preRow enc Try.prog Try.f3 Rows.scoreTellsRow.domain false Rows.scoreTellsRow.laid) (((OpenSpec.ofChange Rows.scoreTellsSpec).at F).post enc Try.prog Try.f3 false true false false) := by
  refine returnsInHanded_of_row (C := Try.checked) (s := OpenSpec.ofChange Rows.scoreTellsSpec) own started (by kernel_rfl) Try.func3
    (witness_laid (enc := enc) (C := Try.checked) (s := OpenSpec.ofChange Rows.scoreTellsSpec) (laid := Rows.scoreTellsRow.laid) #[.agg #[.int .i64 0, .int .i64 0], .int .i64 0, .agg #[.int .i64 0, .int .i64 0]] (World.shaped_of_ZipB (by kernel_rfl) (by kernel_rfl)) (by kernel_rfl)
      (OpenSpec.preRow_of_cond 8 (x := ([.agg [.lit (.int .i64 0), .lit (.int .i64 0)], .lit (.int .i64 0), .agg [.lit (.int .i64 0), .lit (.int .i64 0)]], [], [])) (by kernel_rfl) (by kernel_rfl) (fun k hk => by cases hk) (by kernel_rfl)
        (by rw [MakeChecks.laidMetH_plain _ _ _ (by kernel_rfl)]; exact laidMet_laidAll _ (by kernel_rfl) (by kernel_rfl)))) ?_
  intro W base args ds gs before hval hW _ hcond _ _ hsh _
  exact contract H enc W base args ds gs before hval hW hsh
theorem over : Rows.scoreTellsRow.holds Try.pinned (OpenSpec.ofChange Rows.scoreTellsSpec) :=
  OpenClaim.holds_of_cond 3 Try.f3 rfl rfl rfl rfl rfl rfl rfl ⟨rfl, rfl, rfl, rfl, rfl⟩ rfl rfl rfl rfl rfl (by kernel_rfl) Try.func3 (by kernel_rfl)
    (of_decide_eq_true (by kernel_rfl)) (by unfold Func.isWrapper; first | (rw [if_pos (by decide +kernel)]; kernel_rfl) | (rw [if_neg (by decide +kernel)]; exact ⟨rfl, rfl⟩))
    (fun os started H enc _ F => by rw [OpenClaim.pre_eq_preRow]; exact lifted os started H enc F)
/-- ████ THE STATEMENT ████ -/
theorem proved : Rows.ScoreTellsSaid := over
end scoreTells
end Go.Proofs.Ytkeneeodmmfeiaa
