/- The first statement of layer 15, proved: any score, at any tick. -/
import Derived.Test.YtmdinaanajdmoaaLaw15
namespace Go.Proofs.Ytmdinaanajdmoaa
set_option maxRecDepth 100000
open Go.ChangeShapes Go.WideShapes Go.ChangeAt Go.RowKit
open Ha Go.Deep
set_option linter.unusedVariables false
abbrev ST15 (s d : Sc) (n0 n1 : Nat) (W0 : World) (w' : World) : Prop := w'.cell? ⟨n0, 0, none⟩ = some (.int .i64 s.p) ∧ w'.cell? ⟨n0, 1, none⟩ = some (.int .i64 s.a) ∧ w'.cell? ⟨n1, 0, none⟩ = some (.int .i64 d.p) ∧ w'.cell? ⟨n1, 1, none⟩ = some (.int .i64 d.a) ∧ Below W0.heap.size W0 w'
set_option maxHeartbeats 8000000 in
theorem halfTells_walk (w : World) (s : Sc) (hs : s.ok) (h : Int) (hh : -9223372036854775808 ≤ h ∧ h ≤ 9223372036854775807) (now : Int) (hn : -9223372036854775808 ≤ now ∧ now ≤ 9223372036854775807) :
    Calls Try.prog 3 #[.agg #[.int .i64 s.p, .int .i64 s.a], .int .i64 h, .int .i64 now] w fun e w' => e = .returned (.bool true) ∧ Below w.heap.size w w' := by
  obtain ⟨d, hd⟩ : ∃ d, d = decayS s h now := ⟨_, rfl⟩
  have DA := Lib.hid (fun W => by have k := decay_any s h now W; rwa [← hd] at k)
  have LA := Lib.hid (fun W => by have k := left_any s h now W; rwa [← hd] at k)
  have RA := Lib.hid (fun W => by have k := rdecay_any s h now W; rwa [← hd] at k)
  have AW := Lib.hid (fun W => awake15_any W)
  have EQ := fun W => eq_self d W
  clear hd hs hh hn
  have L0 : Below w.heap.size w (w.alloc (.cells #[.int .i64 s.p, .int .i64 s.a] 23)) := (Below.refl _ _).alloc (Nat.le_refl _) _
  have b0 : (w.alloc (.cells #[.int .i64 s.p, .int .i64 s.a] 23)).cell? ⟨w.heap.size, 0, none⟩ = some (.int .i64 s.p) := by simp [go_sem]
  have b1 : (w.alloc (.cells #[.int .i64 s.p, .int .i64 s.a] 23)).cell? ⟨w.heap.size, 1, none⟩ = some (.int .i64 s.a) := by simp [go_sem]
  go_enter Try.func3, Try.ntmps3
  go_wp2_with fail
  refine (RA.out _).mono ?_
  rintro e w1 ⟨rfl, hb1⟩
  have c0 := cells_kept hb1 b0
  have c1 := cells_kept hb1 b1
  have hsz : w.heap.size + 1 ≤ w1.heap.size := by have := hb1.size; simpa using this
  have a0 : ∀ o : Obj, (w1.alloc o).cell? ⟨w.heap.size, 0, none⟩ = some (.int .i64 s.p) := fun o => cells_kept ((Below.refl _ _).alloc (Nat.le_refl _) _) c0
  have a1 : ∀ o : Obj, (w1.alloc o).cell? ⟨w.heap.size, 1, none⟩ = some (.int .i64 s.a) := fun o => cells_kept ((Below.refl _ _).alloc (Nat.le_refl _) _) c1
  have LOW := Lib.hid (low_trans L0 hb1)
  have LOW2 : Hid (∀ W, Below (w1.alloc (.cells #[.int .i64 d.p, .int .i64 d.a] 23)).heap.size (w1.alloc (.cells #[.int .i64 d.p, .int .i64 d.a] 23)) W → Below w.heap.size w W) := Lib.hid fun W hW => low_trans LOW.out (low_trans ((Below.refl _ _).alloc (Nat.le_refl _) _) hW)
  have IN : ∀ W, Below (w1.alloc (.cells #[.int .i64 d.p, .int .i64 d.a] 23)).heap.size (w1.alloc (.cells #[.int .i64 d.p, .int .i64 d.a] 23)) W → ST15 s d w.heap.size w1.heap.size (w1.alloc (.cells #[.int .i64 d.p, .int .i64 d.a] 23)) W := fun W hW => ⟨cells_kept hW (a0 _), cells_kept hW (a1 _), cells_kept hW (by simp [go_sem]), cells_kept hW (by simp [go_sem]), hW⟩
  have hk0 := IN _ (Below.refl _ _)
  have hk1 := IN _ (low_drewN (Below.refl _ _) 1)
  generalize hW0 : w1.alloc (.cells #[.int .i64 d.p, .int .i64 d.a] 23) = W0 at *
  have K1 : Hid (∀ W, ST15 s d w.heap.size w1.heap.size W0 W → Calls Try.prog 6 #[.agg #[.int .i64 s.p, .int .i64 s.a], .int .i64 h, .int .i64 now] W fun e w' => e = .returned (.agg #[.int .i64 d.p, .int .i64 d.a]) ∧ ST15 s d w.heap.size w1.heap.size W0 w') := Lib.hid fun W k => (DA.out W).mono fun e w' ⟨he, hb⟩ => ⟨he, IN _ (low_trans k.2.2.2.2 hb)⟩
  have K2 : Hid (∀ W, ST15 s d w.heap.size w1.heap.size W0 W → Calls Try.prog 7 #[.agg #[.int .i64 s.p, .int .i64 s.a], .int .i64 h, .int .i64 now] W fun e w' => e = .returned (.int .i64 d.p) ∧ ST15 s d w.heap.size w1.heap.size W0 w') := Lib.hid fun W k => (LA.out W).mono fun e w' ⟨he, hb⟩ => ⟨he, IN _ (low_trans k.2.2.2.2 hb)⟩
  have K3 : Hid (∀ W, ST15 s d w.heap.size w1.heap.size W0 W → Calls Try.prog 8 #[] W fun e w' => e = .returned (.bool true) ∧ ST15 s d w.heap.size w1.heap.size W0 w') := Lib.hid fun W k => (AW.out W).mono fun e w' ⟨he, hb⟩ => ⟨he, IN _ (low_trans k.2.2.2.2 hb)⟩
  subst hW0
  have JD : Hid (∀ W, ST15 s d w.heap.size w1.heap.size (w1.alloc (.cells #[.int .i64 d.p, .int .i64 d.a] 23)) W → ST15 s d w.heap.size w1.heap.size (w1.alloc (.cells #[.int .i64 d.p, .int .i64 d.a] 23)) W.drew) := Lib.hid fun W k => IN _ (low_drewN k.2.2.2.2 1)
  clear IN a0 a1 c0 c1 b0 b1 L0 hb1 DA LA RA AW
  go_wp2_with fail
  have hne : Nonempty (Cls (ST15 s d w.heap.size w1.heap.size (w1.alloc (.cells #[.int .i64 d.p, .int .i64 d.a] 23)))) := ⟨⟨_, hk0⟩⟩
  have f0 : ∀ q : Cls (ST15 s d w.heap.size w1.heap.size (w1.alloc (.cells #[.int .i64 d.p, .int .i64 d.a] 23))), q.w.cell? ⟨w.heap.size, 0, none⟩ = some (.int .i64 s.p) := fun q => q.h.1
  have f1 : ∀ q : Cls (ST15 s d w.heap.size w1.heap.size (w1.alloc (.cells #[.int .i64 d.p, .int .i64 d.a] 23))), q.w.cell? ⟨w.heap.size, 1, none⟩ = some (.int .i64 s.a) := fun q => q.h.2.1
  have f2 : ∀ q : Cls (ST15 s d w.heap.size w1.heap.size (w1.alloc (.cells #[.int .i64 d.p, .int .i64 d.a] 23))), q.w.cell? ⟨w1.heap.size, 0, none⟩ = some (.int .i64 d.p) := fun q => q.h.2.2.1
  have f3 : ∀ q : Cls (ST15 s d w.heap.size w1.heap.size (w1.alloc (.cells #[.int .i64 d.p, .int .i64 d.a] 23))), q.w.cell? ⟨w1.heap.size, 1, none⟩ = some (.int .i64 d.a) := fun q => q.h.2.2.2.1
  refine Cls.region (ST15 s d w.heap.size w1.heap.size (w1.alloc (.cells #[.int .i64 d.p, .int .i64 d.a] 23))) (by kernel_rfl) (by kernel_rfl) (hk1) ?_
  repeat (go_big_quiet_step (first | (with_reducible exact Cls.call (K1.out _ (Cls.h _))) | (with_reducible exact Cls.call (K2.out _ (Cls.h _))) | (with_reducible exact Cls.call (K3.out _ (Cls.h _)))))
  refine wpQuiet_nil ?_
  intro n9
  have hk9 := n9.h
  generalize n9.w = w9 at hk9 ⊢
  clear hne n9 f0 f1 f2 f3
  go_wp2
  go_ret
  exact ⟨rfl, LOW2.out _ hk9.2.2.2.2⟩
namespace halfTells
theorem contract (H : Type) (enc : TypeId × Value → H) (W : World) (base : Nat) (args : Array Value) (ds gs : List (DataW H)) (before : List MemPlace)
    (hval0 : ∀ (j : Nat) t v, Try.f3.params[j]? = some t → args[j]? = some v → Value.okWide Try.prog W .any base t v)
    (hW : DataW.Whole enc Try.prog Try.f3.params.toList Rows.halfTellsSpec.vars false W args.toList ds gs before) (hSh : W.ShapedOpen Try.prog) :
    Calls Try.prog 3 args W fun e W' => ∃ v, e = .returned v ∧ Rows.halfTellsSpec.post enc Try.prog Try.f3 false true false false W args v W' := by
  have hval : ∀ (j : Nat) t v, Try.f3.params[j]? = some t → args[j]? = some v → Value.okWide Try.prog W .any base t v := hval0
  have hW' := hW
  obtain ⟨p, q, hA0, hV, _, _, _⟩ := hW
  have hA : DataW.TrodAll enc Try.prog W 0 (fun _ => true) true Try.f3.params.toList args.toList ds p := hA0
  rw [Try.params3] at hA hval
  obtain ⟨v0, vs0, d0, ds0, p0, q0, hargs, rfl, rfl, h0, r0⟩ := trodAll_cons hA
  obtain ⟨v1, vs1, d1, ds1, p1, q1, rfl, rfl, rfl, h1, r1⟩ := trodAll_cons r0
  obtain ⟨v2, vs2, d2, ds2, p2, q2, rfl, rfl, rfl, h2, r2⟩ := trodAll_cons r1
  obtain ⟨rfl, rfl, rfl⟩ := trodAll_nil r2
  obtain rfl : args = #[v0, v1, v2] := by cases args; simp_all
  obtain ⟨rfl, rfl⟩ := trodVars_none hV
  obtain ⟨i0, j0, y0, z0, rfl⟩ := open_score (hval 0 23 v0 rfl rfl) h0
  obtain ⟨b1, rfl, rfl, rfl, w1⟩ := open_int Try.underlying3 (hval 1 3 v1 rfl rfl) h1
  obtain ⟨b2, rfl, rfl, rfl, w2⟩ := open_int Try.underlying3 (hval 2 3 v2 rfl rfl) h2
  clear hA0 hval0
  refine (halfTells_walk W ⟨i0, j0⟩ ⟨y0, z0⟩ b1 (wf64 w1) b2 (wf64 w2)).mono fun e W' ⟨he, hg⟩ => ?_
  subst he
  exact ⟨_, rfl, post_law laidOut (by kernel_rfl) (by kernel_rfl) Try.underlying4 rfl hW' rfl rfl rfl hg⟩
set_option maxRecDepth 100000 in
theorem lifted (os : Os) (started : os.Started) (H : Type) (enc : TypeId × Value → H) (F : Stop.Interp) :
    ReturnsInHanded {} Try.checked os 3 .any ((OpenSpec.ofChange Rows.halfTellsSpec).preRow enc Try.prog Try.f3 Rows.halfTellsRow.domain false Rows.halfTellsRow.laid) (((OpenSpec.ofChange Rows.halfTellsSpec).at F).post enc Try.prog Try.f3 false true false false) := by
  refine returnsInHanded_of_row (C := Try.checked) (s := OpenSpec.ofChange Rows.halfTellsSpec) own started (by kernel_rfl) Try.func3
    (witness_laid (enc := enc) (C := Try.checked) (s := OpenSpec.ofChange Rows.halfTellsSpec) (laid := Rows.halfTellsRow.laid) #[.agg #[.int .i64 0, .int .i64 0], .int .i64 0, .int .i64 0] (World.shaped_of_ZipB (by kernel_rfl) (by kernel_rfl)) (by kernel_rfl)
      (OpenSpec.preRow_of_cond 8 (x := ([.agg [.lit (.int .i64 0), .lit (.int .i64 0)], .lit (.int .i64 0), .lit (.int .i64 0)], [], [])) (by kernel_rfl) (by kernel_rfl) (fun k hk => by cases hk) (by kernel_rfl)
        (by rw [MakeChecks.laidMetH_plain _ _ _ (by kernel_rfl)]; exact laidMet_laidAll _ (by kernel_rfl) (by kernel_rfl)))) ?_
  intro W base args ds gs before hval hW _ hcond _ _ hsh _
  exact contract H enc W base args ds gs before hval hW hsh
theorem over : Rows.halfTellsRow.holds Try.pinned (OpenSpec.ofChange Rows.halfTellsSpec) :=
  OpenClaim.holds_of_cond 3 Try.f3 rfl rfl rfl rfl rfl rfl rfl ⟨rfl, rfl, rfl, rfl, rfl⟩ rfl rfl rfl rfl rfl (by kernel_rfl) Try.func3 (by kernel_rfl)
    (of_decide_eq_true (by kernel_rfl)) (by unfold Func.isWrapper; first | (rw [if_pos (by decide +kernel)]; kernel_rfl) | (rw [if_neg (by decide +kernel)]; exact ⟨rfl, rfl⟩))
    (fun os started H enc _ F => by rw [OpenClaim.pre_eq_preRow]; exact lifted os started H enc F)
/-- ████ THE STATEMENT ████ -/
theorem proved : Rows.HalfTellsSaid := over
end halfTells
end Go.Proofs.Ytmdinaanajdmoaa
