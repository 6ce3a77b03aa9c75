/- The second statement of layer 26, proved: in which book some are not up any more is as the document has it; for all lists of entries and all ends. -/
import Derived.Test.YtnflgcpacacnlaaLaw26
namespace Go.Proofs.Ytnflgcpacacnlaa
set_option maxRecDepth 100000
open Go.ChangeShapes Go.WideShapes Go.ChangeAt Go.RowKit
open Ad Ci En Sat Bk Et Bo Go.Deep
set_option linter.unusedVariables false
set_option maxHeartbeats 8000000 in
theorem bookDowns_walk (w : World) (v : Value) (l : List Ey) (h : Books w v l) (hok : ∀ x ∈ l, x.ok) (u : Value) (es : List Endp) (he : Bo.Ends w u es) (hoe : ∀ x ∈ es, x.ok) :
    Calls Try.prog 4 #[v, u] w fun e w' => e = .returned (.bool true) ∧ Below w.heap.size w w' := by
  have AW := Lib.hid (fun W => awake26_any W)
  have L0 : Hid (Lows w w) := Lib.hid (Lows.self w)
  have PW : Hid (∀ W, Below w.heap.size w W → Books W v l ∧ Bo.Ends W u es) := Lib.hid fun W hW => ⟨h.below hW, he.below hW⟩
  obtain ⟨A, c, rfl, _, _, _⟩ := h
  obtain ⟨A2, cap2, rfl, _, _, _⟩ := he
  clear hok hoe
  by_cases h60 : 60 < l.length
  · have h60z : (60 : Int) < (l.length : Int) := by omega
    have hd : decide (60 < l.length) = true := decide_eq_true h60
    clear PW
    go_enter Try.func4, Try.ntmps4
    go_wp2_with fail
    refine (AW.out _).mono ?_; rintro e9 w9 ⟨rfl, hb9⟩
    go_wp2_with fail
    go_ret
    exact ⟨rfl, low_trans L0.out hb9⟩
  · have h60z : ¬ (60 : Int) < (l.length : Int) := by omega
    have hd : decide (60 < l.length) = false := decide_eq_false h60
    by_cases h61 : 60 < es.length
    · have h61z : (60 : Int) < (es.length : Int) := by omega
      have hd2 : decide (60 < es.length) = true := decide_eq_true h61
      clear PW
      go_enter Try.func4, Try.ntmps4
      go_wp2_with fail
      refine (AW.out _).mono ?_; rintro e9 w9 ⟨rfl, hb9⟩
      go_wp2_with fail
      go_ret
      exact ⟨rfl, low_trans L0.out hb9⟩
    · have h61z : ¬ (60 : Int) < (es.length : Int) := by omega
      have hd2 : decide (60 < es.length) = false := decide_eq_false h61
      have KD := Lib.hid (downL_any _ _ l es w (PW.out w L0.out).1 (PW.out w L0.out).2 (by omega) (by omega))
      have KRD := Lib.hid (fun (W : World) (hW : Below w.heap.size w W) => rdownL_any _ _ l es W (PW.out W hW).1 (PW.out W hW).2 (by omega) (by omega))
      go_enter Try.func4, Try.ntmps4
      go_wp2_with fail
      refine KD.out.mono ?_; rintro e9 w1 ⟨u1, rfl, hU1, hb1⟩
      have KR1 := Lib.hid (KRD.out w1 hb1)
      have L1 := Lib.hid hb1
      have HU1 := Lib.hid hU1
      clear hb1 hU1 KD KRD L0
      go_wp2_with fail
      refine KR1.out.mono ?_; rintro e9 w2 ⟨u2, rfl, hU2, hb2⟩
      have L2 := Lib.hid (low_trans L1.out hb2)
      have KB := Lib.hid (sameBook_any u1 u2 (downR l es) w2 (HU1.out.below hb2) hU2 (by rw [down_len]; omega))
      clear hb2 hU2 KR1 HU1 L1
      go_wp2_with fail
      refine KB.out.mono ?_; rintro e9 w3 ⟨rfl, hb3⟩
      have L3 := Lib.hid (low_trans L2.out hb3)
      clear hb3 KB L2
      go_wp2_with fail
      refine (AW.out _).mono ?_; rintro e9 w9 ⟨rfl, hb9⟩
      go_wp2_with fail
      go_ret
      exact ⟨rfl, low_trans L3.out hb9⟩
namespace bookDowns
theorem contract (H : Type) (enc : TypeId × Value → H) (W : World) (base : Nat) (args : Array Value) (ds gs : List (DataW H)) (before : List MemPlace)
    (hval0 : ∀ (j : Nat) t v, Try.f4.params[j]? = some t → args[j]? = some v → Value.okWide Try.prog W .any base t v)
    (hW : DataW.Whole enc Try.prog Try.f4.params.toList Rows.bookDownsSpec.vars false W args.toList ds gs before) (hSh : W.ShapedOpen Try.prog) :
    Calls Try.prog 4 args W fun e W' => ∃ v, e = .returned v ∧ Rows.bookDownsSpec.post enc Try.prog Try.f4 false true false false W args v W' := by
  have hval : ∀ (j : Nat) t v, Try.f4.params[j]? = some t → args[j]? = some v → Value.okWide Try.prog W .any base t v := hval0
  have hW' := hW
  obtain ⟨p, q, hA0, hV, _, _, _⟩ := hW
  have hA : DataW.TrodAll enc Try.prog W 0 (fun _ => true) true Try.f4.params.toList args.toList ds p := hA0
  rw [Try.params4] at hA hval
  obtain ⟨v0, vs0, d0, ds0, p0, q0, hargs, rfl, rfl, h0, r0⟩ := trodAll_cons hA
  obtain ⟨v1, vs1, d1, ds1, p1, q1, rfl, rfl, rfl, h1, r1⟩ := trodAll_cons r0
  obtain ⟨rfl, rfl, rfl⟩ := trodAll_nil r1
  obtain rfl : args = #[v0, v1] := by cases args; simp_all
  obtain ⟨rfl, rfl⟩ := trodVars_none hV
  obtain ⟨l0, t0, n0, s0⟩ := open_book (hval 0 22 v0 rfl rfl) h0
  obtain ⟨l1, t1, n1, s1⟩ := open_ends (hval 1 42 v1 rfl rfl) h1
  clear hA0 hval0
  refine (bookDowns_walk W v0 l0 t0 s0 v1 l1 t1 s1).mono fun e W' ⟨he, hg⟩ => ?_
  subst he
  exact ⟨_, rfl, post_law laidOut (by kernel_rfl) (by kernel_rfl) Try.underlying4 rfl hW' rfl rfl rfl hg⟩
set_option maxRecDepth 100000 in
theorem lifted (os : Os) (started : os.Started) (H : Type) (enc : TypeId × Value → H) (F : Stop.Interp) :
    ReturnsInHanded {} Try.checked os 4 .any ((OpenSpec.ofChange Rows.bookDownsSpec).preRow enc Try.prog Try.f4 Rows.bookDownsRow.domain false Rows.bookDownsRow.laid) (((OpenSpec.ofChange Rows.bookDownsSpec).at F).post enc Try.prog Try.f4 false true false false) := by
  refine returnsInHanded_of_row (C := Try.checked) (s := OpenSpec.ofChange Rows.bookDownsSpec) own started (by kernel_rfl) Try.func4
    (witness_laid (enc := enc) (C := Try.checked) (s := OpenSpec.ofChange Rows.bookDownsSpec) (laid := Rows.bookDownsRow.laid) #[.slice none 0 0, .slice none 0 0] (World.shaped_of_ZipB (by kernel_rfl) (by kernel_rfl)) (by kernel_rfl)
      (OpenSpec.preRow_of_cond 8 (x := ([.nil, .nil], [], [])) (by kernel_rfl) (by kernel_rfl) (fun k hk => by cases hk) (by kernel_rfl)
        (by rw [MakeChecks.laidMetH_plain _ _ _ (by kernel_rfl)]; exact laidMet_laidAll _ (by kernel_rfl) (by kernel_rfl)))) ?_
  intro W base args ds gs before hval hW _ hcond _ _ hsh _
  exact contract H enc W base args ds gs before hval hW hsh
theorem over : Rows.bookDownsRow.holds Try.pinned (OpenSpec.ofChange Rows.bookDownsSpec) :=
  OpenClaim.holds_of_cond 4 Try.f4 rfl rfl rfl rfl rfl rfl rfl ⟨rfl, rfl, rfl, rfl, rfl⟩ rfl rfl rfl rfl rfl (by kernel_rfl) Try.func4 (by kernel_rfl)
    (of_decide_eq_true (by kernel_rfl)) (by unfold Func.isWrapper; first | (rw [if_pos (by decide +kernel)]; kernel_rfl) | (rw [if_neg (by decide +kernel)]; exact ⟨rfl, rfl⟩))
    (fun os started H enc _ F => by rw [OpenClaim.pre_eq_preRow]; exact lifted os started H enc F)
/-- ████ THE STATEMENT ████ -/
theorem proved : Rows.BookDownsSaid := over
end bookDowns
end Go.Proofs.Ytnflgcpacacnlaa
