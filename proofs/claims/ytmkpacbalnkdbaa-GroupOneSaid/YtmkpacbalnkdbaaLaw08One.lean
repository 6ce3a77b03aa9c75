/- The second statement of layer 8, proved: an address is in its group, and two are of one group just if one is in the other's; for all addresses. -/
import Derived.Test.YtmkpacbalnkdbaaLaw08
namespace Go.Proofs.Ytmkpacbalnkdbaa
set_option maxRecDepth 100000
open Go.ChangeShapes Go.WideShapes Go.ChangeAt Go.RowKit
open Words Dec V4 V6 Ad Ci Gr
set_option linter.unusedVariables false
set_option maxHeartbeats 16000000 in
theorem one_both (w : World) (a : Adr) (ha : a.ok) (b : Adr) (hb : b.ok) (hra : rightA a = true) (hrb : rightA b = true) :
    Calls Try.prog 4 #[.agg #[.bool a.v6, .int .u64 a.hi, .int .u64 a.lo], .agg #[.bool b.v6, .int .u64 b.hi, .int .u64 b.lo]] w fun e w' => e = .returned (.bool true) ∧ Below w.heap.size w w' := by
  have K1 : Hid (∀ W, SAB a b w W → Calls Try.prog 5 #[.agg #[.bool a.v6, .int .u64 a.hi, .int .u64 a.lo]] W fun e w' => e = .returned (.bool true) ∧ SAB a b w w') := Lib.hid fun W h => by
    have hc : Calls Try.prog 5 #[.agg #[.bool a.v6, .int .u64 a.hi, .int .u64 a.lo]] W fun e w' => e = .returned (.bool true) ∧ Below W.heap.size W w' := by have h := rright_any a W ha; rwa [hra] at h
    exact hc.mono fun e w' ⟨he, hb⟩ => ⟨he, h.on hb⟩
  have K2 : Hid (∀ W, SAB a b w W → Calls Try.prog 5 #[.agg #[.bool b.v6, .int .u64 b.hi, .int .u64 b.lo]] W fun e w' => e = .returned (.bool true) ∧ SAB a b w w') := Lib.hid fun W h => by
    have hc : Calls Try.prog 5 #[.agg #[.bool b.v6, .int .u64 b.hi, .int .u64 b.lo]] W fun e w' => e = .returned (.bool true) ∧ Below W.heap.size W w' := by have h := rright_any b W hb; rwa [hrb] at h
    exact hc.mono fun e w' ⟨he, hb⟩ => ⟨he, h.on hb⟩
  have K3 : Hid (∀ W, SAB a b w W → Calls Try.prog 8 #[.agg #[.bool a.v6, .int .u64 a.hi, .int .u64 a.lo]] W fun e w' => e = .returned (.agg #[.bool (groupN a).a.v6, .int .u64 (groupN a).a.hi, .int .u64 (groupN a).a.lo, .int .i64 (groupN a).n]) ∧ SAB a b w w') := Lib.hid fun W h => by
    have hc : Calls Try.prog 8 #[.agg #[.bool a.v6, .int .u64 a.hi, .int .u64 a.lo]] W fun e w' => e = .returned (.agg #[.bool (groupN a).a.v6, .int .u64 (groupN a).a.hi, .int .u64 (groupN a).a.lo, .int .i64 (groupN a).n]) ∧ Below W.heap.size W w' := groupOf_any a W ha
    exact hc.mono fun e w' ⟨he, hb⟩ => ⟨he, h.on hb⟩
  have K4 : Hid (∀ W, SAB a b w W → Calls Try.prog 8 #[.agg #[.bool b.v6, .int .u64 b.hi, .int .u64 b.lo]] W fun e w' => e = .returned (.agg #[.bool (groupN b).a.v6, .int .u64 (groupN b).a.hi, .int .u64 (groupN b).a.lo, .int .i64 (groupN b).n]) ∧ SAB a b w w') := Lib.hid fun W h => by
    have hc : Calls Try.prog 8 #[.agg #[.bool b.v6, .int .u64 b.hi, .int .u64 b.lo]] W fun e w' => e = .returned (.agg #[.bool (groupN b).a.v6, .int .u64 (groupN b).a.hi, .int .u64 (groupN b).a.lo, .int .i64 (groupN b).n]) ∧ Below W.heap.size W w' := groupOf_any b W hb
    exact hc.mono fun e w' ⟨he, hb⟩ => ⟨he, h.on hb⟩
  have K5 : Hid (∀ W, SAB a b w W → Calls Try.prog 9 #[.agg #[.bool a.v6, .int .u64 a.hi, .int .u64 a.lo], .agg #[.bool b.v6, .int .u64 b.hi, .int .u64 b.lo]] W fun e w' => e = .returned (.bool (sameG a b)) ∧ SAB a b w w') := Lib.hid fun W h => by
    have hc : Calls Try.prog 9 #[.agg #[.bool a.v6, .int .u64 a.hi, .int .u64 a.lo], .agg #[.bool b.v6, .int .u64 b.hi, .int .u64 b.lo]] W fun e w' => e = .returned (.bool (sameG a b)) ∧ Below W.heap.size W w' := sameG_any a b W ha hb
    exact hc.mono fun e w' ⟨he, hb⟩ => ⟨he, h.on hb⟩
  have K6 : Hid (∀ W, SAB a b w W → Calls Try.prog 13 #[.agg #[.bool (groupN a).a.v6, .int .u64 (groupN a).a.hi, .int .u64 (groupN a).a.lo, .int .i64 (groupN a).n], .agg #[.bool a.v6, .int .u64 a.hi, .int .u64 a.lo]] W fun e w' => e = .returned (.bool true) ∧ SAB a b w w') := Lib.hid fun W h => by
    have hc : Calls Try.prog 13 #[.agg #[.bool (groupN a).a.v6, .int .u64 (groupN a).a.hi, .int .u64 (groupN a).a.lo, .int .i64 (groupN a).n], .agg #[.bool a.v6, .int .u64 a.hi, .int .u64 a.lo]] W fun e w' => e = .returned (.bool true) ∧ Below W.heap.size W w' := by have h := has_any (groupN a) a W (group_ok ha) ha; rwa [group_has hra] at h
    exact hc.mono fun e w' ⟨he, hb⟩ => ⟨he, h.on hb⟩
  have K7 : Hid (∀ W, SAB a b w W → Calls Try.prog 13 #[.agg #[.bool (groupN a).a.v6, .int .u64 (groupN a).a.hi, .int .u64 (groupN a).a.lo, .int .i64 (groupN a).n], .agg #[.bool b.v6, .int .u64 b.hi, .int .u64 b.lo]] W fun e w' => e = .returned (.bool (sameG a b)) ∧ SAB a b w w') := Lib.hid fun W h => by
    have hc : Calls Try.prog 13 #[.agg #[.bool (groupN a).a.v6, .int .u64 (groupN a).a.hi, .int .u64 (groupN a).a.lo, .int .i64 (groupN a).n], .agg #[.bool b.v6, .int .u64 b.hi, .int .u64 b.lo]] W fun e w' => e = .returned (.bool (sameG a b)) ∧ Below W.heap.size W w' := by have h := has_any (groupN a) b W (group_ok ha) hb; rwa [sameG_has hra hrb] at h
    exact hc.mono fun e w' ⟨he, hb⟩ => ⟨he, h.on hb⟩
  have EQ : ∀ W, (binOp .eql 28 (.agg #[.bool (groupN a).a.v6, .int .u64 (groupN a).a.hi, .int .u64 (groupN a).a.lo, .int .i64 (groupN a).n]) (.agg #[.bool (groupN b).a.v6, .int .u64 (groupN b).a.hi, .int .u64 (groupN b).a.lo, .int .i64 (groupN b).n])).run Try.prog W = .ok (.bool (sameG a b)) W := fun W => by rw [eqNet, sameG_is hra]
  have K9 : Hid (∀ W, SAB a b w W → Calls Try.prog 12 #[] W fun e w' => e = .returned (.bool true) ∧ SAB a b w w') := Lib.hid fun W h => by
    have hc : Calls Try.prog 12 #[] W fun e w' => e = .returned (.bool true) ∧ Below W.heap.size W w' := awake08_any W
    exact hc.mono fun e w' ⟨he, hb⟩ => ⟨he, h.on hb⟩
  have JD : Hid (∀ W, SAB a b w W → SAB a b w W.drew) := Lib.hid fun W h => SAB.of (low_drewN h.2.2.2.2.2.2 1)
  have hk0 : SAB a b w ((w.alloc (.cells #[.bool a.v6, .int .u64 a.hi, .int .u64 a.lo] 24)).alloc (.cells #[.bool b.v6, .int .u64 b.hi, .int .u64 b.lo] 24)) := SAB.of (Below.refl _ _)
  clear hra hrb
  obtain ⟨c0, c1, c2, c3, c4, c5, hs_c⟩ := id hk0
  go_enter Try.func4, Try.ntmps4
  go_wp2_with fail
  (with_reducible refine (K1.out _ hk0).mono ?_)
  rintro e w1 ⟨rfl, hk1⟩
  clear c0 c1 c2 c3 c4 c5 hs_c
  obtain ⟨d0, d1, d2, d3, d4, d5, hs_d⟩ := id hk1
  go_wp2_with fail
  (with_reducible refine (K2.out _ hk1).mono ?_)
  rintro e w2 ⟨rfl, hk2⟩
  clear d0 d1 d2 d3 d4 d5 hs_d
  obtain ⟨e0, e1, e2, e3, e4, e5, hs_e⟩ := id hk2
  go_wp2_with fail
  go_region_held3 (fun w' => w'.cell? ⟨w.heap.size, 0, none⟩ = some (.bool a.v6) ∧ w'.cell? ⟨w.heap.size, 1, none⟩ = some (.int .u64 a.hi) ∧ w'.cell? ⟨w.heap.size, 2, none⟩ = some (.int .u64 a.lo) ∧ w'.cell? ⟨w.heap.size + 1, 0, none⟩ = some (.bool b.v6) ∧ w'.cell? ⟨w.heap.size + 1, 1, none⟩ = some (.int .u64 b.hi) ∧ w'.cell? ⟨w.heap.size + 1, 2, none⟩ = some (.int .u64 b.lo) ∧ Stays ((w.alloc (.cells #[.bool a.v6, .int .u64 a.hi, .int .u64 a.lo] 24)).alloc (.cells #[.bool b.v6, .int .u64 b.hi, .int .u64 b.lo] 24)) w')
    (first | assumption | exact JD.out _ ‹_›)
    (first
      | (go_at_call 8; (with_reducible first | refine (K3.out _ ‹_›).mono ?_ | refine (K4.out _ ‹_›).mono ?_); rintro e w9 ⟨rfl, hkw⟩)
      | (go_at_call 9; (with_reducible first | refine (K5.out _ ‹_›).mono ?_); rintro e w9 ⟨rfl, hkw⟩)
      | (go_at_call 13; (with_reducible first | refine (K6.out _ ‹_›).mono ?_ | refine (K7.out _ ‹_›).mono ?_); rintro e w9 ⟨rfl, hkw⟩)
      | (go_at_call 12; (with_reducible first | refine (K9.out _ ‹_›).mono ?_); rintro e w9 ⟨rfl, hkw⟩))
  go_wp2
  go_ret
  exact ⟨rfl, SAB.low (‹SAB a b w _›)⟩
set_option maxHeartbeats 16000000 in
theorem one_left (w : World) (a : Adr) (ha : a.ok) (b : Adr) (hb : b.ok) (hra : rightA a = true) (hrb : rightA b = false) :
    Calls Try.prog 4 #[.agg #[.bool a.v6, .int .u64 a.hi, .int .u64 a.lo], .agg #[.bool b.v6, .int .u64 b.hi, .int .u64 b.lo]] w fun e w' => e = .returned (.bool true) ∧ Below w.heap.size w w' := by
  have K1 : Hid (∀ W, SAB a b w W → Calls Try.prog 5 #[.agg #[.bool a.v6, .int .u64 a.hi, .int .u64 a.lo]] W fun e w' => e = .returned (.bool true) ∧ SAB a b w w') := Lib.hid fun W h => by
    have hc : Calls Try.prog 5 #[.agg #[.bool a.v6, .int .u64 a.hi, .int .u64 a.lo]] W fun e w' => e = .returned (.bool true) ∧ Below W.heap.size W w' := by have h := rright_any a W ha; rwa [hra] at h
    exact hc.mono fun e w' ⟨he, hb⟩ => ⟨he, h.on hb⟩
  have K2 : Hid (∀ W, SAB a b w W → Calls Try.prog 5 #[.agg #[.bool b.v6, .int .u64 b.hi, .int .u64 b.lo]] W fun e w' => e = .returned (.bool false) ∧ SAB a b w w') := Lib.hid fun W h => by
    have hc : Calls Try.prog 5 #[.agg #[.bool b.v6, .int .u64 b.hi, .int .u64 b.lo]] W fun e w' => e = .returned (.bool false) ∧ Below W.heap.size W w' := by have h := rright_any b W hb; rwa [hrb] at h
    exact hc.mono fun e w' ⟨he, hb⟩ => ⟨he, h.on hb⟩
  have K9 : Hid (∀ W, SAB a b w W → Calls Try.prog 12 #[] W fun e w' => e = .returned (.bool true) ∧ SAB a b w w') := Lib.hid fun W h => by
    have hc : Calls Try.prog 12 #[] W fun e w' => e = .returned (.bool true) ∧ Below W.heap.size W w' := awake08_any W
    exact hc.mono fun e w' ⟨he, hb⟩ => ⟨he, h.on hb⟩
  have JD : Hid (∀ W, SAB a b w W → SAB a b w W.drew) := Lib.hid fun W h => SAB.of (low_drewN h.2.2.2.2.2.2 1)
  have hk0 : SAB a b w ((w.alloc (.cells #[.bool a.v6, .int .u64 a.hi, .int .u64 a.lo] 24)).alloc (.cells #[.bool b.v6, .int .u64 b.hi, .int .u64 b.lo] 24)) := SAB.of (Below.refl _ _)
  clear hra hrb
  obtain ⟨c0, c1, c2, c3, c4, c5, hs_c⟩ := id hk0
  go_enter Try.func4, Try.ntmps4
  go_wp2_with fail
  (with_reducible refine (K1.out _ hk0).mono ?_)
  rintro e w1 ⟨rfl, hk1⟩
  clear c0 c1 c2 c3 c4 c5 hs_c
  obtain ⟨d0, d1, d2, d3, d4, d5, hs_d⟩ := id hk1
  go_wp2_with fail
  (with_reducible refine (K2.out _ hk1).mono ?_)
  rintro e w2 ⟨rfl, hk2⟩
  clear d0 d1 d2 d3 d4 d5 hs_d
  obtain ⟨e0, e1, e2, e3, e4, e5, hs_e⟩ := id hk2
  go_wp2_with fail
  (with_reducible refine (K9.out _ hk2).mono ?_)
  rintro e w3 ⟨rfl, hk3⟩
  go_wp2_with fail
  go_ret
  exact ⟨rfl, SAB.low (hk3)⟩
set_option maxHeartbeats 16000000 in
theorem one_none (w : World) (a : Adr) (ha : a.ok) (b : Adr) (hb : b.ok) (hra : rightA a = false) :
    Calls Try.prog 4 #[.agg #[.bool a.v6, .int .u64 a.hi, .int .u64 a.lo], .agg #[.bool b.v6, .int .u64 b.hi, .int .u64 b.lo]] w fun e w' => e = .returned (.bool true) ∧ Below w.heap.size w w' := by
  have K1 : Hid (∀ W, SAB a b w W → Calls Try.prog 5 #[.agg #[.bool a.v6, .int .u64 a.hi, .int .u64 a.lo]] W fun e w' => e = .returned (.bool false) ∧ SAB a b w w') := Lib.hid fun W h => by
    have hc : Calls Try.prog 5 #[.agg #[.bool a.v6, .int .u64 a.hi, .int .u64 a.lo]] W fun e w' => e = .returned (.bool false) ∧ Below W.heap.size W w' := by have h := rright_any a W ha; rwa [hra] at h
    exact hc.mono fun e w' ⟨he, hb⟩ => ⟨he, h.on hb⟩
  have K9 : Hid (∀ W, SAB a b w W → Calls Try.prog 12 #[] W fun e w' => e = .returned (.bool true) ∧ SAB a b w w') := Lib.hid fun W h => by
    have hc : Calls Try.prog 12 #[] W fun e w' => e = .returned (.bool true) ∧ Below W.heap.size W w' := awake08_any W
    exact hc.mono fun e w' ⟨he, hb⟩ => ⟨he, h.on hb⟩
  have JD : Hid (∀ W, SAB a b w W → SAB a b w W.drew) := Lib.hid fun W h => SAB.of (low_drewN h.2.2.2.2.2.2 1)
  have hk0 : SAB a b w ((w.alloc (.cells #[.bool a.v6, .int .u64 a.hi, .int .u64 a.lo] 24)).alloc (.cells #[.bool b.v6, .int .u64 b.hi, .int .u64 b.lo] 24)) := SAB.of (Below.refl _ _)
  clear hra
  obtain ⟨c0, c1, c2, c3, c4, c5, hs_c⟩ := id hk0
  go_enter Try.func4, Try.ntmps4
  go_wp2_with fail
  (with_reducible refine (K1.out _ hk0).mono ?_)
  rintro e w1 ⟨rfl, hk1⟩
  clear c0 c1 c2 c3 c4 c5 hs_c
  obtain ⟨d0, d1, d2, d3, d4, d5, hs_d⟩ := id hk1
  go_wp2_with fail
  (with_reducible refine (K9.out _ hk1).mono ?_)
  rintro e w3 ⟨rfl, hk3⟩
  go_wp2_with fail
  go_ret
  exact ⟨rfl, SAB.low (hk3)⟩
theorem groupOne_walk (w : World) (a : Adr) (ha : a.ok) (b : Adr) (hb : b.ok) :
    Calls Try.prog 4 #[.agg #[.bool a.v6, .int .u64 a.hi, .int .u64 a.lo], .agg #[.bool b.v6, .int .u64 b.hi, .int .u64 b.lo]] w fun e w' => e = .returned (.bool true) ∧ Below w.heap.size w w' := by
  cases hra : rightA a
  · exact one_none w a ha b hb hra
  · cases hrb : rightA b
    · exact one_left w a ha b hb hra hrb
    · exact one_both w a ha b hb hra hrb
namespace groupOne
theorem contract (H : Type) (enc : TypeId × Value → H) (W : World) (base : Nat) (args : Array Value) (ds gs : List (DataW H)) (before : List MemPlace)
    (hval0 : ∀ (j : Nat) t v, Try.f4.params[j]? = some t → args[j]? = some v → Value.okWide Try.prog W .any base t v)
    (hW : DataW.Whole enc Try.prog Try.f4.params.toList Rows.groupOneSpec.vars false W args.toList ds gs before) (hSh : W.ShapedOpen Try.prog) :
    Calls Try.prog 4 args W fun e W' => ∃ v, e = .returned v ∧ Rows.groupOneSpec.post enc Try.prog Try.f4 false true false false W args v W' := by
  have hval : ∀ (j : Nat) t v, Try.f4.params[j]? = some t → args[j]? = some v → Value.okWide Try.prog W .any base t v := hval0
  have hW' := hW
  obtain ⟨p, q, hA0, hV, _, _, _⟩ := hW
  have hA : DataW.TrodAll enc Try.prog W 0 (fun _ => true) true Try.f4.params.toList args.toList ds p := hA0
  rw [Try.params4] at hA hval
  obtain ⟨v0, vs0, d0, ds0, p0, q0, hargs, rfl, rfl, h0, r0⟩ := trodAll_cons hA
  obtain ⟨v1, vs1, d1, ds1, p1, q1, rfl, rfl, rfl, h1, r1⟩ := trodAll_cons r0
  obtain ⟨rfl, rfl, rfl⟩ := trodAll_nil r1
  obtain rfl : args = #[v0, v1] := by cases args; simp_all
  obtain ⟨rfl, rfl⟩ := trodVars_none hV
  obtain ⟨a0, z0, rfl, rfl, rfl⟩ := open_adr (tb := 4) (ti := 22) Try.underlying24 (by kernel_rfl) (by kernel_rfl) rfl rfl rfl Try.underlying4 Try.underlying22 (hval 0 24 v0 rfl rfl) h0
  obtain ⟨a1, z1, rfl, rfl, rfl⟩ := open_adr (tb := 4) (ti := 22) Try.underlying24 (by kernel_rfl) (by kernel_rfl) rfl rfl rfl Try.underlying4 Try.underlying22 (hval 1 24 v1 rfl rfl) h1
  clear hA0 hval0
  refine (groupOne_walk W a0 z0 a1 z1).mono fun e W' ⟨he, hg⟩ => ?_
  subst he
  exact ⟨_, rfl, post_law laidOut (by kernel_rfl) (by kernel_rfl) Try.underlying4 rfl hW' rfl rfl rfl hg⟩
set_option maxRecDepth 100000 in
theorem lifted (os : Os) (started : os.Started) (H : Type) (enc : TypeId × Value → H) (F : Stop.Interp) :
    ReturnsInHanded {} Try.checked os 4 .any ((OpenSpec.ofChange Rows.groupOneSpec).preRow enc Try.prog Try.f4 Rows.groupOneRow.domain false Rows.groupOneRow.laid) (((OpenSpec.ofChange Rows.groupOneSpec).at F).post enc Try.prog Try.f4 false true false false) := by
  refine returnsInHanded_of_row (C := Try.checked) (s := OpenSpec.ofChange Rows.groupOneSpec) own started (by kernel_rfl) Try.func4
    (witness_laid (enc := enc) (C := Try.checked) (s := OpenSpec.ofChange Rows.groupOneSpec) (laid := Rows.groupOneRow.laid) #[.agg #[.bool false, .int .u64 0, .int .u64 0], .agg #[.bool false, .int .u64 0, .int .u64 0]] (World.shaped_of_ZipB (by kernel_rfl) (by kernel_rfl)) (by kernel_rfl)
      (OpenSpec.preRow_of_cond 8 (x := ([.agg [.lit (.bool false), .lit (.int .u64 0), .lit (.int .u64 0)], .agg [.lit (.bool false), .lit (.int .u64 0), .lit (.int .u64 0)]], [], [])) (by kernel_rfl) (by kernel_rfl) (fun k hk => by cases hk) (by kernel_rfl)
        (by rw [MakeChecks.laidMetH_plain _ _ _ (by kernel_rfl)]; exact laidMet_laidAll _ (by kernel_rfl) (by kernel_rfl)))) ?_
  intro W base args ds gs before hval hW _ hcond _ _ hsh _
  exact contract H enc W base args ds gs before hval hW hsh
theorem over : Rows.groupOneRow.holds Try.pinned (OpenSpec.ofChange Rows.groupOneSpec) :=
  OpenClaim.holds_of_cond 4 Try.f4 rfl rfl rfl rfl rfl rfl rfl ⟨rfl, rfl, rfl, rfl, rfl⟩ rfl rfl rfl rfl rfl (by kernel_rfl) Try.func4 (by kernel_rfl)
    (of_decide_eq_true (by kernel_rfl)) (by unfold Func.isWrapper; first | (rw [if_pos (by decide +kernel)]; kernel_rfl) | (rw [if_neg (by decide +kernel)]; exact ⟨rfl, rfl⟩))
    (fun os started H enc _ F => by rw [OpenClaim.pre_eq_preRow]; exact lifted os started H enc F)
/-- ████ THE STATEMENT ████ -/
theorem proved : Rows.GroupOneSaid := over
end groupOne
end Go.Proofs.Ytmkpacbalnkdbaa
