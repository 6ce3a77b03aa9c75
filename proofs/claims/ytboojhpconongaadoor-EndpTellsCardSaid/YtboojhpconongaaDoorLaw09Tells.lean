/- The first statement of layer 9, proved: any end's text, and which end any text is, as the document says; for all ends and texts, under the row's listed variables. -/
import Derived.Test.YtboojhpconongaaDoorLaw09
namespace Go.Proofs.YtboojhpconongaaDoor
set_option maxRecDepth 100000
open Go.ChangeShapes Go.WideShapes Go.ChangeAt Go.RowKit
open Words Dec V4 V6 Ad Ci En
set_option linter.unusedVariables false
abbrev S09b (x : Endp) (l : List UInt8) (w w1 w2 : World) (w' : World) : Prop := w'.cell? ⟨w.heap.size, 0, none⟩ = some (.bool x.a.v6) ∧ w'.cell? ⟨w.heap.size, 1, none⟩ = some (.int .u64 x.a.hi) ∧ w'.cell? ⟨w.heap.size, 2, none⟩ = some (.int .u64 x.a.lo) ∧ w'.cell? ⟨w.heap.size, 3, none⟩ = some (.int .i64 x.n) ∧ w'.cell? ⟨w1.heap.size, 0, none⟩ = some (.bool (parseE l).a.v6) ∧ w'.cell? ⟨w1.heap.size, 1, none⟩ = some (.int .u64 (parseE l).a.hi) ∧ w'.cell? ⟨w1.heap.size, 2, none⟩ = some (.int .u64 (parseE l).a.lo) ∧ w'.cell? ⟨w1.heap.size, 3, none⟩ = some (.int .i64 (parseE l).n) ∧ w'.cell? ⟨w2.heap.size, 0, none⟩ = some (.bool (parseE l).a.v6) ∧ w'.cell? ⟨w2.heap.size, 1, none⟩ = some (.int .u64 (parseE l).a.hi) ∧ w'.cell? ⟨w2.heap.size, 2, none⟩ = some (.int .u64 (parseE l).a.lo) ∧ w'.cell? ⟨w2.heap.size, 3, none⟩ = some (.int .i64 (parseE l).n) ∧ Stays (w2.alloc (.cells #[.bool (parseE l).a.v6, .int .u64 (parseE l).a.hi, .int .u64 (parseE l).a.lo, .int .i64 (parseE l).n] 26)) w'
set_option maxHeartbeats 16000000 in
theorem endpTells_walk (w : World) (x : Endp) (hx : x.ok) (l : List UInt8) (hl : l.length ≤ 9223372036854775807) (hL : Lens w) :
    Calls Tryd.prog 3 #[.agg #[.bool x.a.v6, .int .u64 x.a.hi, .int .u64 x.a.lo, .int .i64 x.n], .string ⟨l.toArray⟩] w fun e w' => e = .returned (.bool true) ∧ Below w.heap.size w w' := by
  have hL0 := hL.below ((Below.refl w.heap.size w).alloc (Nat.le_refl _) (.cells #[.bool x.a.v6, .int .u64 x.a.hi, .int .u64 x.a.lo, .int .i64 x.n] 26))
  by_cases h : 1000 < l.length
  · go_enter Tryd.func3, Tryd.ntmps3
    go_wp2_with fail
    refine (awake09_any _ hL0).mono ?_
    rintro e w1 ⟨rfl, hb1⟩
    go_wp2_with fail
    go_ret
    exact ⟨rfl, ((Below.refl _ _).alloc (Nat.le_refl _) _).trans (hb1.mono (by simp))⟩
  · have EQ : ∀ W, (binOp .eql 26 (.agg #[.bool (parseE l).a.v6, .int .u64 (parseE l).a.hi, .int .u64 (parseE l).a.lo, .int .i64 (parseE l).n]) (.agg #[.bool (parseE l).a.v6, .int .u64 (parseE l).a.hi, .int .u64 (parseE l).a.lo, .int .i64 (parseE l).n])).run Tryd.prog W = .ok (.bool true) W := fun W => by rw [eqEnd, same_selfE]
    go_enter Tryd.func3, Tryd.ntmps3
    go_wp2_with fail
    refine (parseE_any l _ (by omega) hL0).mono ?_
    rintro e w1 ⟨rfl, hb1⟩
    have hu0 : Stays (w.alloc (.cells #[.bool x.a.v6, .int .u64 x.a.hi, .int .u64 x.a.lo, .int .i64 x.n] 26)) (w1.alloc (.cells #[.bool (parseE l).a.v6, .int .u64 (parseE l).a.hi, .int .u64 (parseE l).a.lo, .int .i64 (parseE l).n] 26)) := hb1.alloc hb1.size _
    go_wp2_with fail
    refine (rparseE_any l _ (by omega)).mono ?_
    rintro e w2 ⟨rfl, hb2⟩
    have hs1 : Stays (w1.alloc (.cells #[.bool (parseE l).a.v6, .int .u64 (parseE l).a.hi, .int .u64 (parseE l).a.lo, .int .i64 (parseE l).n] 26)) (w2.alloc (.cells #[.bool (parseE l).a.v6, .int .u64 (parseE l).a.hi, .int .u64 (parseE l).a.lo, .int .i64 (parseE l).n] 26)) := hb2.alloc hb2.size _
    have hs0 : Stays (w.alloc (.cells #[.bool x.a.v6, .int .u64 x.a.hi, .int .u64 x.a.lo, .int .i64 x.n] 26)) (w2.alloc (.cells #[.bool (parseE l).a.v6, .int .u64 (parseE l).a.hi, .int .u64 (parseE l).a.lo, .int .i64 (parseE l).n] 26)) := low_trans hu0 hs1
    have hL2 := hL0.below hs0
    clear hu0 hb1 hb2
    go_wp2_with fail
    have IN : ∀ w', Stays (w2.alloc (.cells #[.bool (parseE l).a.v6, .int .u64 (parseE l).a.hi, .int .u64 (parseE l).a.lo, .int .i64 (parseE l).n] 26)) w' → S09b x l w w1 w2 w' := fun w' h => ⟨Ci.cells_left h (Ci.cells_left hs0 (cell_new4 _ _ _ _ _ _).1), Ci.cells_left h (Ci.cells_left hs0 (cell_new4 _ _ _ _ _ _).2.1), Ci.cells_left h (Ci.cells_left hs0 (cell_new4 _ _ _ _ _ _).2.2.1), Ci.cells_left h (Ci.cells_left hs0 (cell_new4 _ _ _ _ _ _).2.2.2), Ci.cells_left h (Ci.cells_left hs1 (cell_new4 _ _ _ _ _ _).1), Ci.cells_left h (Ci.cells_left hs1 (cell_new4 _ _ _ _ _ _).2.1), Ci.cells_left h (Ci.cells_left hs1 (cell_new4 _ _ _ _ _ _).2.2.1), Ci.cells_left h (Ci.cells_left hs1 (cell_new4 _ _ _ _ _ _).2.2.2), Ci.cells_left h (cell_new4 _ _ _ _ _ _).1, Ci.cells_left h (cell_new4 _ _ _ _ _ _).2.1, Ci.cells_left h (cell_new4 _ _ _ _ _ _).2.2.1, Ci.cells_left h (cell_new4 _ _ _ _ _ _).2.2.2, h⟩
    have K1 : Hid (∀ W, S09b x l w w1 w2 W → Calls Tryd.prog 9 #[.agg #[.bool x.a.v6, .int .u64 x.a.hi, .int .u64 x.a.lo, .int .i64 x.n]] W fun e w' => e = .returned (.bool (rightE x)) ∧ S09b x l w w1 w2 w') := by
      intro W h
      have hs : Stays (w2.alloc (.cells #[.bool (parseE l).a.v6, .int .u64 (parseE l).a.hi, .int .u64 (parseE l).a.lo, .int .i64 (parseE l).n] 26)) W := h.2.2.2.2.2.2.2.2.2.2.2.2
      have hc : Calls Tryd.prog 9 #[.agg #[.bool x.a.v6, .int .u64 x.a.hi, .int .u64 x.a.lo, .int .i64 x.n]] W fun e w' => e = .returned (.bool (rightE x)) ∧ Below W.heap.size W w' := rightE_any x W hx
      exact hc.mono fun e w' ⟨he, hb⟩ => ⟨he, IN _ (low_trans hs hb)⟩
    have K2 : Hid (∀ W, S09b x l w w1 w2 W → Calls Tryd.prog 10 #[.agg #[.bool x.a.v6, .int .u64 x.a.hi, .int .u64 x.a.lo, .int .i64 x.n]] W fun e w' => e = .returned (.bool (rightE x)) ∧ S09b x l w w1 w2 w') := by
      intro W h
      have hs : Stays (w2.alloc (.cells #[.bool (parseE l).a.v6, .int .u64 (parseE l).a.hi, .int .u64 (parseE l).a.lo, .int .i64 (parseE l).n] 26)) W := h.2.2.2.2.2.2.2.2.2.2.2.2
      have hc : Calls Tryd.prog 10 #[.agg #[.bool x.a.v6, .int .u64 x.a.hi, .int .u64 x.a.lo, .int .i64 x.n]] W fun e w' => e = .returned (.bool (rightE x)) ∧ Below W.heap.size W w' := rrightE_any x W hx
      exact hc.mono fun e w' ⟨he, hb⟩ => ⟨he, IN _ (low_trans hs hb)⟩
    have K3 : Hid (∀ W, S09b x l w w1 w2 W → Calls Tryd.prog 11 #[.agg #[.bool x.a.v6, .int .u64 x.a.hi, .int .u64 x.a.lo, .int .i64 x.n]] W fun e w' => e = .returned (.string ⟨(textE x).toArray⟩) ∧ S09b x l w w1 w2 w') := by
      intro W h
      have hs : Stays (w2.alloc (.cells #[.bool (parseE l).a.v6, .int .u64 (parseE l).a.hi, .int .u64 (parseE l).a.lo, .int .i64 (parseE l).n] 26)) W := h.2.2.2.2.2.2.2.2.2.2.2.2
      have hc : Calls Tryd.prog 11 #[.agg #[.bool x.a.v6, .int .u64 x.a.hi, .int .u64 x.a.lo, .int .i64 x.n]] W fun e w' => e = .returned (.string ⟨(textE x).toArray⟩) ∧ Below W.heap.size W w' := textE_any x W hx
      exact hc.mono fun e w' ⟨he, hb⟩ => ⟨he, IN _ (low_trans hs hb)⟩
    have K4 : Hid (∀ W, S09b x l w w1 w2 W → Calls Tryd.prog 12 #[.agg #[.bool x.a.v6, .int .u64 x.a.hi, .int .u64 x.a.lo, .int .i64 x.n]] W fun e w' => e = .returned (.string ⟨(textE x).toArray⟩) ∧ S09b x l w w1 w2 w') := by
      intro W h
      have hs : Stays (w2.alloc (.cells #[.bool (parseE l).a.v6, .int .u64 (parseE l).a.hi, .int .u64 (parseE l).a.lo, .int .i64 (parseE l).n] 26)) W := h.2.2.2.2.2.2.2.2.2.2.2.2
      have hc : Calls Tryd.prog 12 #[.agg #[.bool x.a.v6, .int .u64 x.a.hi, .int .u64 x.a.lo, .int .i64 x.n]] W fun e w' => e = .returned (.string ⟨(textE x).toArray⟩) ∧ Below W.heap.size W w' := rtextE_any x W hx
      exact hc.mono fun e w' ⟨he, hb⟩ => ⟨he, IN _ (low_trans hs hb)⟩
    have K9 : Hid (∀ W, S09b x l w w1 w2 W → Calls Tryd.prog 6 #[] W fun e w' => e = .returned (.bool true) ∧ S09b x l w w1 w2 w') := by
      intro W h
      have hs : Stays (w2.alloc (.cells #[.bool (parseE l).a.v6, .int .u64 (parseE l).a.hi, .int .u64 (parseE l).a.lo, .int .i64 (parseE l).n] 26)) W := h.2.2.2.2.2.2.2.2.2.2.2.2
      have hc : Calls Tryd.prog 6 #[] W fun e w' => e = .returned (.bool true) ∧ Below W.heap.size W w' := awake09_any W (hL2.below hs)
      exact hc.mono fun e w' ⟨he, hb⟩ => ⟨he, IN _ (low_trans hs hb)⟩
    have hk0 : S09b x l w w1 w2 (w2.alloc (.cells #[.bool (parseE l).a.v6, .int .u64 (parseE l).a.hi, .int .u64 (parseE l).a.lo, .int .i64 (parseE l).n] 26)) := IN _ (Below.refl _ _)
    go_region_held3 (fun w' => w'.cell? ⟨w.heap.size, 0, none⟩ = some (.bool x.a.v6) ∧ w'.cell? ⟨w.heap.size, 1, none⟩ = some (.int .u64 x.a.hi) ∧ w'.cell? ⟨w.heap.size, 2, none⟩ = some (.int .u64 x.a.lo) ∧ w'.cell? ⟨w.heap.size, 3, none⟩ = some (.int .i64 x.n) ∧ w'.cell? ⟨w1.heap.size, 0, none⟩ = some (.bool (parseE l).a.v6) ∧ w'.cell? ⟨w1.heap.size, 1, none⟩ = some (.int .u64 (parseE l).a.hi) ∧ w'.cell? ⟨w1.heap.size, 2, none⟩ = some (.int .u64 (parseE l).a.lo) ∧ w'.cell? ⟨w1.heap.size, 3, none⟩ = some (.int .i64 (parseE l).n) ∧ w'.cell? ⟨w2.heap.size, 0, none⟩ = some (.bool (parseE l).a.v6) ∧ w'.cell? ⟨w2.heap.size, 1, none⟩ = some (.int .u64 (parseE l).a.hi) ∧ w'.cell? ⟨w2.heap.size, 2, none⟩ = some (.int .u64 (parseE l).a.lo) ∧ w'.cell? ⟨w2.heap.size, 3, none⟩ = some (.int .i64 (parseE l).n) ∧ Stays (w2.alloc (.cells #[.bool (parseE l).a.v6, .int .u64 (parseE l).a.hi, .int .u64 (parseE l).a.lo, .int .i64 (parseE l).n] 26)) w')
      (first | assumption | exact IN _ (low_drewN (‹S09b x l w w1 w2 _›).2.2.2.2.2.2.2.2.2.2.2.2 1))
      (first
        | (go_at_call 9; (with_reducible refine (K1.out _ ‹_›).mono ?_); rintro e w9 ⟨rfl, hkw⟩)
        | (go_at_call 10; (with_reducible refine (K2.out _ ‹_›).mono ?_); rintro e w9 ⟨rfl, hkw⟩)
        | (go_at_call 11; (with_reducible refine (K3.out _ ‹_›).mono ?_); rintro e w9 ⟨rfl, hkw⟩)
        | (go_at_call 12; (with_reducible refine (K4.out _ ‹_›).mono ?_); rintro e w9 ⟨rfl, hkw⟩)
        | (go_at_call 6; (with_reducible refine (K9.out _ ‹_›).mono ?_); rintro e w9 ⟨rfl, hkw⟩))
    go_wp2
    go_ret
    exact ⟨rfl, ((Below.refl _ _).alloc (Nat.le_refl _) _).trans ((low_trans hs0 (‹S09b x l w w1 w2 _›).2.2.2.2.2.2.2.2.2.2.2.2).mono (by simp))⟩
namespace endpTells
theorem contract (H : Type) (enc : TypeId × Value → H) (W : World) (base : Nat) (args : Array Value) (ds gs : List (DataW H)) (before : List MemPlace)
    (hval0 : ∀ (j : Nat) t v, Tryd.f3.params[j]? = some t → args[j]? = some v → Value.okWide Tryd.prog W .any base t v)
    (hW : DataW.Whole enc Tryd.prog Tryd.f3.params.toList Rows.endpTellsSpec.vars false W args.toList ds gs before) (hSh : W.ShapedOpen Tryd.prog) :
    Calls Tryd.prog 3 args W fun e W' => ∃ v, e = .returned v ∧ Rows.endpTellsSpec.post enc Tryd.prog Tryd.f3 false true false false W args v W' := by
  have hval : ∀ (j : Nat) t v, Tryd.f3.params[j]? = some t → args[j]? = some v → Value.okWide Tryd.prog W .any base t v := hval0
  have hW' := hW
  obtain ⟨p, q, hA0, hV, _, _, _⟩ := hW
  have hA : DataW.TrodAll enc Tryd.prog W 0 (fun _ => true) true Tryd.f3.params.toList args.toList ds p := hA0
  rw [Tryd.params3] at hA hval
  obtain ⟨v0, vs0, d0, ds0, p0, q0, hargs, rfl, rfl, h0, r0⟩ := trodAll_cons hA
  obtain ⟨v1, vs1, d1, ds1, p1, q1, rfl, rfl, rfl, h1, r1⟩ := trodAll_cons r0
  obtain ⟨rfl, rfl, rfl⟩ := trodAll_nil r1
  obtain rfl : args = #[v0, v1] := by cases args; simp_all
  obtain ⟨rfl, rfl⟩ := trodVars_none hV
  obtain ⟨a0, z0, rfl, rfl, rfl⟩ := open_end (ta := 24) (tb := 4) (tu := 22) (ti := 3) Tryd.underlying26 rfl rfl Tryd.underlying24 (by kernel_rfl) rfl rfl (by kernel_rfl) (by kernel_rfl) (by kernel_rfl) rfl rfl rfl Tryd.underlying4 Tryd.underlying22 Tryd.underlying3 (hval 0 26 v0 rfl rfl) h0
  obtain ⟨b1, rfl, rfl, rfl, w1⟩ := ChangeMaps.open_string Tryd.underlying9 (hval 1 9 v1 rfl rfl) h1
  obtain ⟨a1, rfl⟩ : ∃ a : List UInt8, b1 = ⟨a.toArray⟩ := ⟨b1.data.toList, (str_same _).symm⟩
  have z1 : a1.length ≤ 9223372036854775807 := by unfold maxLen at w1; rw [← len_size, str_back] at w1; exact w1
  clear hA0 hval0
  refine (endpTells_walk W a0 z0 a1 (by omega) (V6.Lens.start hSh)).mono fun e W' ⟨he, hg⟩ => ?_
  subst he
  exact ⟨_, rfl, post_law laidOut (by kernel_rfl) (by kernel_rfl) Tryd.underlying4 rfl hW' rfl rfl rfl hg⟩
set_option maxRecDepth 100000 in
theorem lifted (os : Os) (started : os.Started) (H : Type) (enc : TypeId × Value → H) (F : Stop.Interp) :
    ReturnsInHanded {} Tryd.checked os 3 .any ((OpenSpec.ofChange Rows.endpTellsSpec).preRow enc Tryd.prog Tryd.f3 Rows.endpTellsRow.domain false Rows.endpTellsRow.laid) (((OpenSpec.ofChange Rows.endpTellsSpec).at F).post enc Tryd.prog Tryd.f3 false true false false) := by
  refine returnsInHanded_of_row (C := Tryd.checked) (s := OpenSpec.ofChange Rows.endpTellsSpec) own started (by kernel_rfl) Tryd.func3
    (witness_laid (enc := enc) (C := Tryd.checked) (s := OpenSpec.ofChange Rows.endpTellsSpec) (laid := Rows.endpTellsRow.laid) #[.agg #[.bool false, .int .u64 0, .int .u64 0, .int .i64 0], .string ByteArray.empty] (World.shaped_of_ZipB (by kernel_rfl) (by kernel_rfl)) (by kernel_rfl)
      (OpenSpec.preRow_of_cond 8 (x := ([.agg [.agg [.lit (.bool false), .lit (.int .u64 0), .lit (.int .u64 0)], .lit (.int .i64 0)], .lit (.string [])], [], [])) (by kernel_rfl) (by kernel_rfl) (fun k hk => by cases hk) (by kernel_rfl)
        (by rw [MakeChecks.laidMetH_plain _ _ _ (by kernel_rfl)]; exact laidMet_laidAll _ (by kernel_rfl) (by kernel_rfl)))) ?_
  intro W base args ds gs before hval hW _ hcond _ _ hsh _
  exact contract H enc W base args ds gs before hval hW hsh
theorem over : Rows.endpTellsRow.holds Tryd.pinned (OpenSpec.ofChange Rows.endpTellsSpec) :=
  OpenClaim.holds_of_cond 3 Tryd.f3 rfl rfl rfl rfl rfl rfl rfl ⟨rfl, rfl, rfl, rfl, rfl⟩ rfl rfl rfl rfl rfl (by kernel_rfl) Tryd.func3 (by kernel_rfl)
    (of_decide_eq_true (by kernel_rfl)) (by unfold Func.isWrapper; first | (rw [if_pos (by decide +kernel)]; kernel_rfl) | (rw [if_neg (by decide +kernel)]; exact ⟨rfl, rfl⟩))
    (fun os started H enc _ F => by rw [OpenClaim.pre_eq_preRow]; exact lifted os started H enc F)
/-- ████ THE STATEMENT ████ -/
theorem proved : Rows.EndpTellsCardSaid :=
  Claim7.holds_tied_plain_at .later [] Rows.endpTellsCard.laidKinds Rows.endpTellsCard.laidTests Rows.endpTellsCard.stood.harness Rows.endpTellsCard.stood.looks over (fun _ h => by cases h) (by kernel_rfl) (fun _ h => by cases h) endpTells_row_tie rfl ⟨rfl, rfl⟩ (by kernel_rfl) rfl
    (fun f fn hf hfn => by
      obtain rfl : f = 3 := Option.some.inj ((show Tryd.prog.funcNamed Rows.endpTellsRow.func = some 3 by kernel_rfl).symm.trans hf) |>.symm
      obtain rfl : fn = Tryd.f3 := (Option.some.inj (Tryd.func3.symm.trans hfn)).symm
      exact ⟨by kernel_rfl, no_standin (by kernel_rfl)⟩)
    (by kernel_rfl)
end endpTells
end Go.Proofs.YtboojhpconongaaDoor
