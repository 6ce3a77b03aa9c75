/- The second statement of layer 15, proved: to look in between changes nothing, and points never grow by time. -/
import Derived.Test.YtmdinaanajdmoaaLaw15
namespace Go.Proofs.Ytmdinaanajdmoaa
set_option maxRecDepth 100000
open Go.ChangeShapes Go.WideShapes Go.ChangeAt Go.RowKit
open Ha Go.Deep
set_option linter.unusedVariables false
abbrev SA15 (s : Sc) (i j : Int) (n0 n1 : Nat) (W0 : World) (w' : World) : Prop := w'.cell? ⟨n0, 0, none⟩ = some (.int .i64 s.p) ∧ w'.cell? ⟨n0, 1, none⟩ = some (.int .i64 s.a) ∧ w'.cell? ⟨n1, 0, none⟩ = some (.int .i64 i) ∧ w'.cell? ⟨n1, 1, none⟩ = some (.int .i64 j) ∧ Below W0.heap.size W0 w'
abbrev SU15 (s d : Sc) (n0 n1 : Nat) (W0 : World) (w' : World) : Prop := w'.cell? ⟨n0, 0, none⟩ = some (.int .i64 s.p) ∧ w'.cell? ⟨n0, 1, none⟩ = some (.int .i64 s.a) ∧ w'.cell? ⟨n1, 0, none⟩ = some (.int .i64 d.p) ∧ w'.cell? ⟨n1, 1, none⟩ = some (.int .i64 d.a) ∧ Below W0.heap.size W0 w'
set_option maxHeartbeats 8000000 in
theorem halfTwice_walk (w : World) (s : Sc) (hs : s.ok) (h : Int) (hh : -9223372036854775808 ≤ h ∧ h ≤ 9223372036854775807) (i j : Int) (hi : -9223372036854775808 ≤ i ∧ i ≤ 9223372036854775807) (hj : -9223372036854775808 ≤ j ∧ j ≤ 9223372036854775807) :
    Calls Try.prog 4 #[.agg #[.int .i64 s.p, .int .i64 s.a], .int .i64 h, .agg #[.int .i64 i, .int .i64 j]] w fun e w' => e = .returned (.bool true) ∧ Below w.heap.size w w' := by
  obtain ⟨lo, M1⟩ : ∃ m, min i j = m := ⟨_, rfl⟩
  obtain ⟨hi2, M2⟩ : ∃ m, max i j = m := ⟨_, rfl⟩
  have hle : lo ≤ hi2 := by omega
  obtain ⟨d, hd⟩ : ∃ d, d = decayS s h lo := ⟨_, rfl⟩
  obtain ⟨q, hq⟩ : ∃ q, q = decayS s h hi2 := ⟨_, rfl⟩
  have e1 : decayS d h hi2 = q := by rw [hd, hq]; exact decay_twice s h lo hi2 hle
  have e2 : decayS d h lo = d := by rw [hd]; exact decay_twice s h lo lo (Int.le_refl _)
  have LE : q.p ≤ d.p := by rw [hd, hq]; exact decay_less s h lo hi2 hle
  have C1 := Lib.hid (fun W => by have k := decay_any d h hi2 W; rwa [e1] at k)
  have C2 := Lib.hid (fun W => by have k := decay_any s h hi2 W; rwa [← hq] at k)
  have C3 := Lib.hid (fun W => by have k := left_any s h hi2 W; rwa [← hq] at k)
  have C4 := Lib.hid (fun W => by have k := left_any s h lo W; rwa [← hd] at k)
  have C5 := Lib.hid (fun W => by have k := decay_any d h lo W; rwa [e2] at k)
  have DA := Lib.hid (fun W => by have k := decay_any s h lo W; rwa [← hd] at k)
  have AW := Lib.hid (fun W => awake15_any W)
  have EQ := fun W => eq_self d W
  have EP := fun W => eq_self q W
  clear hd hq hs hh hi hj hle e1 e2
  have L0 : Below w.heap.size w ((w.alloc (.cells #[.int .i64 s.p, .int .i64 s.a] 23)).alloc (.cells #[.int .i64 i, .int .i64 j] 28)) := ((Below.refl _ _).alloc (Nat.le_refl _) _).alloc (by simp) _
  have IA : ∀ W, Below ((w.alloc (.cells #[.int .i64 s.p, .int .i64 s.a] 23)).alloc (.cells #[.int .i64 i, .int .i64 j] 28)).heap.size ((w.alloc (.cells #[.int .i64 s.p, .int .i64 s.a] 23)).alloc (.cells #[.int .i64 i, .int .i64 j] 28)) W → SA15 s i j w.heap.size (w.heap.size + 1) ((w.alloc (.cells #[.int .i64 s.p, .int .i64 s.a] 23)).alloc (.cells #[.int .i64 i, .int .i64 j] 28)) W := fun W hW => ⟨cells_kept hW (by simp [go_sem]), cells_kept hW (by simp [go_sem]), cells_kept hW (by simp [go_sem]), cells_kept hW (by simp [go_sem]), hW⟩
  have hk0 := IA _ (Below.refl _ _)
  have hk1 := IA _ (low_drewN (Below.refl _ _) 1)
  clear IA
  go_enter Try.func4, Try.ntmps4
  go_wp2_with fail
  have hne : Nonempty (Cls (SA15 s i j w.heap.size (w.heap.size + 1) ((w.alloc (.cells #[.int .i64 s.p, .int .i64 s.a] 23)).alloc (.cells #[.int .i64 i, .int .i64 j] 28)))) := ⟨⟨_, hk0⟩⟩
  have f0 : ∀ q : Cls (SA15 s i j w.heap.size (w.heap.size + 1) ((w.alloc (.cells #[.int .i64 s.p, .int .i64 s.a] 23)).alloc (.cells #[.int .i64 i, .int .i64 j] 28))), q.w.cell? ⟨w.heap.size, 0, none⟩ = some (.int .i64 s.p) := fun q => q.h.1
  have f1 : ∀ q : Cls (SA15 s i j w.heap.size (w.heap.size + 1) ((w.alloc (.cells #[.int .i64 s.p, .int .i64 s.a] 23)).alloc (.cells #[.int .i64 i, .int .i64 j] 28))), q.w.cell? ⟨w.heap.size, 1, none⟩ = some (.int .i64 s.a) := fun q => q.h.2.1
  have f2 : ∀ q : Cls (SA15 s i j w.heap.size (w.heap.size + 1) ((w.alloc (.cells #[.int .i64 s.p, .int .i64 s.a] 23)).alloc (.cells #[.int .i64 i, .int .i64 j] 28))), q.w.cell? ⟨w.heap.size + 1, 0, none⟩ = some (.int .i64 i) := fun q => q.h.2.2.1
  have f3 : ∀ q : Cls (SA15 s i j w.heap.size (w.heap.size + 1) ((w.alloc (.cells #[.int .i64 s.p, .int .i64 s.a] 23)).alloc (.cells #[.int .i64 i, .int .i64 j] 28))), q.w.cell? ⟨w.heap.size + 1, 1, none⟩ = some (.int .i64 j) := fun q => q.h.2.2.2.1
  refine Cls.region (SA15 s i j w.heap.size (w.heap.size + 1) ((w.alloc (.cells #[.int .i64 s.p, .int .i64 s.a] 23)).alloc (.cells #[.int .i64 i, .int .i64 j] 28))) (by kernel_rfl) (by kernel_rfl) (hk1) ?_
  repeat (go_big_quiet_step (fail))
  refine wpQuiet_nil ?_
  intro n9
  have hk2 := n9.h
  generalize n9.w = w0 at hk2 ⊢
  clear hne n9 f0 f1 f2 f3
  obtain ⟨b0, b1, b2, b3, hs0⟩ := id hk2
  have L1 := Lib.hid (low_trans L0 hs0)
  clear hk0 hk1 hk2 hs0 L0 b2 b3
  go_wp2_with fail
  refine (DA.out _).mono ?_
  rintro e w1 ⟨rfl, hb1⟩
  have c0 := cells_kept hb1 b0
  have c1 := cells_kept hb1 b1
  have LOW := Lib.hid (low_trans L1.out hb1)
  have LOW2 : Hid (∀ W, Below (w1.alloc (.cells #[.int .i64 d.p, .int .i64 d.a] 23)).heap.size (w1.alloc (.cells #[.int .i64 d.p, .int .i64 d.a] 23)) W → Below w.heap.size w W) := Lib.hid fun W hW => low_trans LOW.out (low_trans ((Below.refl _ _).alloc (Nat.le_refl _) _) hW)
  have a0 : ∀ o : Obj, (w1.alloc o).cell? ⟨w.heap.size, 0, none⟩ = some (.int .i64 s.p) := fun o => cells_kept ((Below.refl _ _).alloc (Nat.le_refl _) _) c0
  have a1 : ∀ o : Obj, (w1.alloc o).cell? ⟨w.heap.size, 1, none⟩ = some (.int .i64 s.a) := fun o => cells_kept ((Below.refl _ _).alloc (Nat.le_refl _) _) c1
  have IN : ∀ W, Below (w1.alloc (.cells #[.int .i64 d.p, .int .i64 d.a] 23)).heap.size (w1.alloc (.cells #[.int .i64 d.p, .int .i64 d.a] 23)) W → SU15 s d w.heap.size w1.heap.size (w1.alloc (.cells #[.int .i64 d.p, .int .i64 d.a] 23)) W := fun W hW => ⟨cells_kept hW (a0 _), cells_kept hW (a1 _), cells_kept hW (by simp [go_sem]), cells_kept hW (by simp [go_sem]), hW⟩
  have hk3 := IN _ (Below.refl _ _)
  have hk4 := IN _ (low_drewN (Below.refl _ _) 1)
  have K1 : Hid (∀ W, SU15 s d w.heap.size w1.heap.size (w1.alloc (.cells #[.int .i64 d.p, .int .i64 d.a] 23)) W → Calls Try.prog 6 #[.agg #[.int .i64 d.p, .int .i64 d.a], .int .i64 h, .int .i64 hi2] W fun e w' => e = .returned (.agg #[.int .i64 q.p, .int .i64 q.a]) ∧ SU15 s d w.heap.size w1.heap.size (w1.alloc (.cells #[.int .i64 d.p, .int .i64 d.a] 23)) w') := Lib.hid fun W k => (C1.out W).mono fun e w' ⟨he, hb⟩ => ⟨he, IN _ (low_trans k.2.2.2.2 hb)⟩
  have K2 : Hid (∀ W, SU15 s d w.heap.size w1.heap.size (w1.alloc (.cells #[.int .i64 d.p, .int .i64 d.a] 23)) W → Calls Try.prog 6 #[.agg #[.int .i64 s.p, .int .i64 s.a], .int .i64 h, .int .i64 hi2] W fun e w' => e = .returned (.agg #[.int .i64 q.p, .int .i64 q.a]) ∧ SU15 s d w.heap.size w1.heap.size (w1.alloc (.cells #[.int .i64 d.p, .int .i64 d.a] 23)) w') := Lib.hid fun W k => (C2.out W).mono fun e w' ⟨he, hb⟩ => ⟨he, IN _ (low_trans k.2.2.2.2 hb)⟩
  have K3 : Hid (∀ W, SU15 s d w.heap.size w1.heap.size (w1.alloc (.cells #[.int .i64 d.p, .int .i64 d.a] 23)) W → Calls Try.prog 7 #[.agg #[.int .i64 s.p, .int .i64 s.a], .int .i64 h, .int .i64 hi2] W fun e w' => e = .returned (.int .i64 q.p) ∧ SU15 s d w.heap.size w1.heap.size (w1.alloc (.cells #[.int .i64 d.p, .int .i64 d.a] 23)) w') := Lib.hid fun W k => (C3.out W).mono fun e w' ⟨he, hb⟩ => ⟨he, IN _ (low_trans k.2.2.2.2 hb)⟩
  have K4 : Hid (∀ W, SU15 s d w.heap.size w1.heap.size (w1.alloc (.cells #[.int .i64 d.p, .int .i64 d.a] 23)) W → Calls Try.prog 7 #[.agg #[.int .i64 s.p, .int .i64 s.a], .int .i64 h, .int .i64 lo] W fun e w' => e = .returned (.int .i64 d.p) ∧ SU15 s d w.heap.size w1.heap.size (w1.alloc (.cells #[.int .i64 d.p, .int .i64 d.a] 23)) w') := Lib.hid fun W k => (C4.out W).mono fun e w' ⟨he, hb⟩ => ⟨he, IN _ (low_trans k.2.2.2.2 hb)⟩
  have K5 : Hid (∀ W, SU15 s d w.heap.size w1.heap.size (w1.alloc (.cells #[.int .i64 d.p, .int .i64 d.a] 23)) W → Calls Try.prog 6 #[.agg #[.int .i64 d.p, .int .i64 d.a], .int .i64 h, .int .i64 lo] W fun e w' => e = .returned (.agg #[.int .i64 d.p, .int .i64 d.a]) ∧ SU15 s d w.heap.size w1.heap.size (w1.alloc (.cells #[.int .i64 d.p, .int .i64 d.a] 23)) w') := Lib.hid fun W k => (C5.out W).mono fun e w' ⟨he, hb⟩ => ⟨he, IN _ (low_trans k.2.2.2.2 hb)⟩
  have K6 : Hid (∀ W, SU15 s d w.heap.size w1.heap.size (w1.alloc (.cells #[.int .i64 d.p, .int .i64 d.a] 23)) W → Calls Try.prog 8 #[] W fun e w' => e = .returned (.bool true) ∧ SU15 s d w.heap.size w1.heap.size (w1.alloc (.cells #[.int .i64 d.p, .int .i64 d.a] 23)) w') := Lib.hid fun W k => (AW.out W).mono fun e w' ⟨he, hb⟩ => ⟨he, IN _ (low_trans k.2.2.2.2 hb)⟩
  clear IN a0 a1 c0 c1 b0 b1 hb1 C1 C2 C3 C4 C5 DA AW M1 M2
  go_wp2_with fail
  have hne : Nonempty (Cls (SU15 s d w.heap.size w1.heap.size (w1.alloc (.cells #[.int .i64 d.p, .int .i64 d.a] 23)))) := ⟨⟨_, hk3⟩⟩
  have f0 : ∀ q : Cls (SU15 s d w.heap.size w1.heap.size (w1.alloc (.cells #[.int .i64 d.p, .int .i64 d.a] 23))), q.w.cell? ⟨w.heap.size, 0, none⟩ = some (.int .i64 s.p) := fun q => q.h.1
  have f1 : ∀ q : Cls (SU15 s d w.heap.size w1.heap.size (w1.alloc (.cells #[.int .i64 d.p, .int .i64 d.a] 23))), q.w.cell? ⟨w.heap.size, 1, none⟩ = some (.int .i64 s.a) := fun q => q.h.2.1
  have f2 : ∀ q : Cls (SU15 s d w.heap.size w1.heap.size (w1.alloc (.cells #[.int .i64 d.p, .int .i64 d.a] 23))), q.w.cell? ⟨w1.heap.size, 0, none⟩ = some (.int .i64 d.p) := fun q => q.h.2.2.1
  have f3 : ∀ q : Cls (SU15 s d w.heap.size w1.heap.size (w1.alloc (.cells #[.int .i64 d.p, .int .i64 d.a] 23))), q.w.cell? ⟨w1.heap.size, 1, none⟩ = some (.int .i64 d.a) := fun q => q.h.2.2.2.1
  refine Cls.region (SU15 s d w.heap.size w1.heap.size (w1.alloc (.cells #[.int .i64 d.p, .int .i64 d.a] 23))) (by kernel_rfl) (by kernel_rfl) (hk4) ?_
  repeat (go_big_quiet_step (first | (with_reducible exact Cls.call (K1.out _ (Cls.h _))) | (with_reducible exact Cls.call (K2.out _ (Cls.h _))) | (with_reducible exact Cls.call (K3.out _ (Cls.h _))) | (with_reducible exact Cls.call (K4.out _ (Cls.h _))) | (with_reducible exact Cls.call (K5.out _ (Cls.h _))) | (with_reducible exact Cls.call (K6.out _ (Cls.h _)))))
  refine wpQuiet_nil ?_
  intro n9
  have hk9 := n9.h
  generalize n9.w = w9 at hk9 ⊢
  clear hne n9 f0 f1 f2 f3
  go_wp2
  go_ret
  exact ⟨rfl, LOW2.out _ hk9.2.2.2.2⟩
namespace halfTwice
theorem contract (H : Type) (enc : TypeId × Value → H) (W : World) (base : Nat) (args : Array Value) (ds gs : List (DataW H)) (before : List MemPlace)
    (hval0 : ∀ (j : Nat) t v, Try.f4.params[j]? = some t → args[j]? = some v → Value.okWide Try.prog W .any base t v)
    (hW : DataW.Whole enc Try.prog Try.f4.params.toList Rows.halfTwiceSpec.vars false W args.toList ds gs before) (hSh : W.ShapedOpen Try.prog) :
    Calls Try.prog 4 args W fun e W' => ∃ v, e = .returned v ∧ Rows.halfTwiceSpec.post enc Try.prog Try.f4 false true false false W args v W' := by
  have hval : ∀ (j : Nat) t v, Try.f4.params[j]? = some t → args[j]? = some v → Value.okWide Try.prog W .any base t v := hval0
  have hW' := hW
  obtain ⟨p, q, hA0, hV, _, _, _⟩ := hW
  have hA : DataW.TrodAll enc Try.prog W 0 (fun _ => true) true Try.f4.params.toList args.toList ds p := hA0
  rw [Try.params4] at hA hval
  obtain ⟨v0, vs0, d0, ds0, p0, q0, hargs, rfl, rfl, h0, r0⟩ := trodAll_cons hA
  obtain ⟨v1, vs1, d1, ds1, p1, q1, rfl, rfl, rfl, h1, r1⟩ := trodAll_cons r0
  obtain ⟨v2, vs2, d2, ds2, p2, q2, rfl, rfl, rfl, h2, r2⟩ := trodAll_cons r1
  obtain ⟨rfl, rfl, rfl⟩ := trodAll_nil r2
  obtain rfl : args = #[v0, v1, v2] := by cases args; simp_all
  obtain ⟨rfl, rfl⟩ := trodVars_none hV
  obtain ⟨i0, j0, y0, z0, rfl⟩ := open_score (hval 0 23 v0 rfl rfl) h0
  obtain ⟨b1, rfl, rfl, rfl, w1⟩ := open_int Try.underlying3 (hval 1 3 v1 rfl rfl) h1
  obtain ⟨i2, j2, y2, z2, rfl⟩ := open_two (hval 2 28 v2 rfl rfl) h2
  clear hA0 hval0
  refine (halfTwice_walk W ⟨i0, j0⟩ ⟨y0, z0⟩ b1 (wf64 w1) i2 j2 y2 z2).mono fun e W' ⟨he, hg⟩ => ?_
  subst he
  exact ⟨_, rfl, post_law laidOut (by kernel_rfl) (by kernel_rfl) Try.underlying4 rfl hW' rfl rfl rfl hg⟩
set_option maxRecDepth 100000 in
theorem lifted (os : Os) (started : os.Started) (H : Type) (enc : TypeId × Value → H) (F : Stop.Interp) :
    ReturnsInHanded {} Try.checked os 4 .any ((OpenSpec.ofChange Rows.halfTwiceSpec).preRow enc Try.prog Try.f4 Rows.halfTwiceRow.domain false Rows.halfTwiceRow.laid) (((OpenSpec.ofChange Rows.halfTwiceSpec).at F).post enc Try.prog Try.f4 false true false false) := by
  refine returnsInHanded_of_row (C := Try.checked) (s := OpenSpec.ofChange Rows.halfTwiceSpec) own started (by kernel_rfl) Try.func4
    (witness_laid (enc := enc) (C := Try.checked) (s := OpenSpec.ofChange Rows.halfTwiceSpec) (laid := Rows.halfTwiceRow.laid) #[.agg #[.int .i64 0, .int .i64 0], .int .i64 0, .agg #[.int .i64 0, .int .i64 0]] (World.shaped_of_ZipB (by kernel_rfl) (by kernel_rfl)) (by kernel_rfl)
      (OpenSpec.preRow_of_cond 8 (x := ([.agg [.lit (.int .i64 0), .lit (.int .i64 0)], .lit (.int .i64 0), .agg [.lit (.int .i64 0), .lit (.int .i64 0)]], [], [])) (by kernel_rfl) (by kernel_rfl) (fun k hk => by cases hk) (by kernel_rfl)
        (by rw [MakeChecks.laidMetH_plain _ _ _ (by kernel_rfl)]; exact laidMet_laidAll _ (by kernel_rfl) (by kernel_rfl)))) ?_
  intro W base args ds gs before hval hW _ hcond _ _ hsh _
  exact contract H enc W base args ds gs before hval hW hsh
theorem over : Rows.halfTwiceRow.holds Try.pinned (OpenSpec.ofChange Rows.halfTwiceSpec) :=
  OpenClaim.holds_of_cond 4 Try.f4 rfl rfl rfl rfl rfl rfl rfl ⟨rfl, rfl, rfl, rfl, rfl⟩ rfl rfl rfl rfl rfl (by kernel_rfl) Try.func4 (by kernel_rfl)
    (of_decide_eq_true (by kernel_rfl)) (by unfold Func.isWrapper; first | (rw [if_pos (by decide +kernel)]; kernel_rfl) | (rw [if_neg (by decide +kernel)]; exact ⟨rfl, rfl⟩))
    (fun os started H enc _ F => by rw [OpenClaim.pre_eq_preRow]; exact lifted os started H enc F)
/-- ████ THE STATEMENT ████ -/
theorem proved : Rows.HalfTwiceSaid := over
end halfTwice
end Go.Proofs.Ytmdinaanajdmoaa
