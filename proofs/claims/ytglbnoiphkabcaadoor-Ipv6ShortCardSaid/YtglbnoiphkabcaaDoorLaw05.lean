/- The statements of layer 5, proved: addresses of sixteen bytes are written and read as the document says; for all addresses and all texts, under the row's listed variables. -/
import Derived.Test.YtglbnoiphkabcaaDoorDoor
import Derived.Test.YtglbnoiphkabcaaDoorRef05
import Derived.Test.YtglbnoiphkabcaaDoorRef05Parse
namespace Go.Proofs.YtglbnoiphkabcaaDoor
open Go.ChangeShapes Go.WideShapes Go.ChangeAt Go.RowKit
open Words Dec V4 V6
set_option linter.unusedVariables false
set_option maxHeartbeats 2000000 in
theorem awake05_any (w : World) (hL : Lens w) : Calls Tryd.prog 6 #[] w fun e w' => e = .returned (.bool true) ∧ Below w.heap.size w w' := by
  have P1 := Lib.hid (parse6_any [58, 58, 49])
  have P2 := Lib.hid (parse6_any [58, 58, 102, 102, 102, 102, 58, 49, 46, 50, 46, 51, 46, 52])
  have P3 := Lib.hid (parse6_any [49, 58, 58, 50, 58, 58, 51])
  have P4 := Lib.hid (text6_any 2306139568115548160 1)
  unfold Parse6 at P1 P2 P3
  rw [show hi6 [58, 58, 49] = 0 from by decide +kernel, show lo6 [58, 58, 49] = 1 from by decide +kernel, show ok6 [58, 58, 49] = true from by decide +kernel] at P1
  rw [show lo6 [58, 58, 102, 102, 102, 102, 58, 49, 46, 50, 46, 51, 46, 52] = 281470698652420 from by decide +kernel, show ok6 [58, 58, 102, 102, 102, 102, 58, 49, 46, 50, 46, 51, 46, 52] = true from by decide +kernel] at P2
  rw [show ok6 [49, 58, 58, 50, 58, 58, 51] = false from by decide +kernel] at P3
  rw [show text6 2306139568115548160 1 = [50, 48, 48, 49, 58, 100, 98, 56, 58, 58, 49] from by decide +kernel] at P4
  go_enter Tryd.func6, Tryd.ntmps6
  go_wp2_with fail
  refine (P1.out _ (by decide) hL).mono ?_
  rintro e w1 ⟨rfl, hb1⟩
  have hL1 := hL.below hb1
  go_wp2_with fail
  refine (P2.out _ (by decide) hL1).mono ?_
  rintro e w2 ⟨rfl, hb2⟩
  have hL2 := hL1.below hb2
  go_wp2_with fail
  refine (P3.out _ (by decide) hL2).mono ?_
  rintro e w3 ⟨rfl, hb3⟩
  go_wp2_with fail
  refine (P4.out _ (by decide) (by decide)).mono ?_
  rintro e w4 ⟨rfl, hb4⟩
  go_wp2_with fail
  go_ret
  exact ⟨rfl, low_trans (low_trans (low_trans hb1 hb2) hb3) hb4⟩
set_option maxHeartbeats 4000000 in
theorem ipv6Tells_walk (w : World) (hi : Nat) (h1 : hi < 18446744073709551616) (lo : Nat) (h2 : lo < 18446744073709551616) (l : List UInt8) (hl : l.length ≤ 9223372036854775807) (hL : Lens w) :
    Calls Tryd.prog 3 #[.int .u64 hi, .int .u64 lo, .string ⟨l.toArray⟩] w fun e w' => e = .returned (.bool true) ∧ Below w.heap.size w w' := by
  have h6 := hi6_lt l
  have l6 := lo6_lt l
  by_cases h : 1000 < l.length
  · go_enter Tryd.func3, Tryd.ntmps3
    go_wp2_with fail
    refine (awake05_any _ hL).mono ?_
    rintro e w1 ⟨rfl, hb1⟩
    go_wp2_with fail
    go_ret
    exact ⟨rfl, hb1⟩
  · go_enter Tryd.func3, Tryd.ntmps3
    go_wp2_with fail
    refine (parse6_any l _ (by omega) hL).mono ?_
    rintro e w1 ⟨rfl, hb1⟩
    go_wp2_with fail
    refine (rparse6_any l _ hl).mono ?_
    rintro e w2 ⟨rfl, hb2⟩
    go_wp2_with fail
    refine (text6_any hi lo _ h1 h2).mono ?_
    rintro e w3 ⟨rfl, hb3⟩
    go_wp2_with fail
    refine (rtext6_any hi lo _ h1 h2).mono ?_
    rintro e w4 ⟨rfl, hb4⟩
    have hL4 := (((hL.below hb1).below hb2).below hb3).below hb4
    go_wp2_with fail
    refine (awake05_any _ hL4).mono ?_
    rintro e w5 ⟨rfl, hb5⟩
    go_wp2_with fail
    go_ret
    exact ⟨rfl, low_trans (low_trans (low_trans (low_trans hb1 hb2) hb3) hb4) hb5⟩
set_option maxHeartbeats 4000000 in
theorem ipv6Back_walk (w : World) (hi : Nat) (h1 : hi < 18446744073709551616) (lo : Nat) (h2 : lo < 18446744073709551616) (hL : Lens w) :
    Calls Tryd.prog 4 #[.int .u64 hi, .int .u64 lo] w fun e w' => e = .returned (.bool true) ∧ Below w.heap.size w w' := by
  have P1 := Lib.hid (parse6_any (text6 hi lo))
  have P2 := Lib.hid (parse6_any (full6 hi lo))
  unfold Parse6 at P1 P2
  obtain ⟨a1, a2, a3⟩ := back6 h1 h2
  obtain ⟨b1, b2, b3⟩ := back6_full h1 h2
  rw [a1, a2, a3] at P1
  rw [b1, b2, b3] at P2
  have hl1 := text6_len hi lo
  have hl2 := full6_len hi lo
  clear a1 a2 a3 b1 b2 b3
  go_enter Tryd.func4, Tryd.ntmps4
  go_wp2_with fail
  refine (text6_any hi lo _ h1 h2).mono ?_
  rintro e w1 ⟨rfl, hb1⟩
  have hL1 := hL.below hb1
  go_wp2_with fail
  refine (P1.out _ (by omega) hL1).mono ?_
  rintro e w2 ⟨rfl, hb2⟩
  have hL2 := hL1.below hb2
  go_wp2_with fail
  refine (rfull6_any hi lo _ h1 h2).mono ?_
  rintro e w3 ⟨rfl, hb3⟩
  have hL3 := hL2.below hb3
  go_wp2_with fail
  refine (P2.out _ (by omega) hL3).mono ?_
  rintro e w4 ⟨rfl, hb4⟩
  have hL4 := hL3.below hb4
  go_wp2_with fail
  refine (awake05_any _ hL4).mono ?_
  rintro e w5 ⟨rfl, hb5⟩
  go_wp2_with fail
  go_ret
  exact ⟨rfl, low_trans (low_trans (low_trans (low_trans hb1 hb2) hb3) hb4) hb5⟩
set_option maxHeartbeats 4000000 in
theorem ipv6Short_walk (w : World) (hi : Nat) (h1 : hi < 18446744073709551616) (lo : Nat) (h2 : lo < 18446744073709551616) (l : List UInt8) (hl : l.length ≤ 9223372036854775807) (hL : Lens w) :
    Calls Tryd.prog 5 #[.int .u64 hi, .int .u64 lo, .string ⟨l.toArray⟩] w fun e w' => e = .returned (.bool true) ∧ Below w.heap.size w w' := by
  have hs := short6 hi lo
  have hl1 := text6_len hi lo
  have hl2 := full6_len hi lo
  have h6 := hi6_lt l
  have l6 := lo6_lt l
  by_cases h : 1000 < l.length
  · go_enter Tryd.func5, Tryd.ntmps5
    go_wp2_with fail
    refine (text6_any hi lo _ h1 h2).mono ?_
    rintro e w1 ⟨rfl, hb1⟩
    have hL1 := hL.below hb1
    go_wp2_with fail
    refine (rfull6_any hi lo _ h1 h2).mono ?_
    rintro e w2 ⟨rfl, hb2⟩
    have hL2 := hL1.below hb2
    go_wp2_with fail
    refine (awake05_any _ hL2).mono ?_
    rintro e w3 ⟨rfl, hb3⟩
    go_wp2_with fail
    go_ret
    exact ⟨rfl, low_trans (low_trans hb1 hb2) hb3⟩
  · cases hk : ok6 l
    · have P1 := Lib.hid (parse6_any l)
      unfold Parse6 at P1
      rw [hk, (no6 hk).1, (no6 hk).2] at P1
      clear hk
      go_enter Tryd.func5, Tryd.ntmps5
      go_wp2_with fail
      refine (text6_any hi lo _ h1 h2).mono ?_
      rintro e w1 ⟨rfl, hb1⟩
      have hL1 := hL.below hb1
      go_wp2_with fail
      refine (rfull6_any hi lo _ h1 h2).mono ?_
      rintro e w2 ⟨rfl, hb2⟩
      have hL2 := hL1.below hb2
      go_wp2_with fail
      refine (P1.out _ (by omega) hL2).mono ?_
      rintro e w3 ⟨rfl, hb3⟩
      have hL3 := hL2.below hb3
      go_wp2_with fail
      refine (awake05_any _ hL3).mono ?_
      rintro e w4 ⟨rfl, hb4⟩
      go_wp2_with fail
      go_ret
      exact ⟨rfl, low_trans (low_trans (low_trans hb1 hb2) hb3) hb4⟩
    · have P1 := Lib.hid (parse6_any l)
      have P2 := Lib.hid (parse6_any (text6 (hi6 l) (lo6 l)))
      unfold Parse6 at P1 P2
      obtain ⟨a1, a2, a3⟩ := back6 h6 l6
      rw [hk] at P1
      rw [a1, a2, a3] at P2
      have hl3 := text6_len (hi6 l) (lo6 l)
      clear hk a1 a2 a3
      go_enter Tryd.func5, Tryd.ntmps5
      go_wp2_with fail
      refine (text6_any hi lo _ h1 h2).mono ?_
      rintro e w1 ⟨rfl, hb1⟩
      have hL1 := hL.below hb1
      go_wp2_with fail
      refine (rfull6_any hi lo _ h1 h2).mono ?_
      rintro e w2 ⟨rfl, hb2⟩
      have hL2 := hL1.below hb2
      go_wp2_with fail
      refine (P1.out _ (by omega) hL2).mono ?_
      rintro e w3 ⟨rfl, hb3⟩
      have hL3 := hL2.below hb3
      go_wp2_with fail
      refine (text6_any (hi6 l) (lo6 l) _ h6 l6).mono ?_
      rintro e w4 ⟨rfl, hb4⟩
      have hL4 := hL3.below hb4
      go_wp2_with fail
      refine (P2.out _ (by omega) hL4).mono ?_
      rintro e w5 ⟨rfl, hb5⟩
      have hL5 := hL4.below hb5
      go_wp2_with fail
      refine (awake05_any _ hL5).mono ?_
      rintro e w6 ⟨rfl, hb6⟩
      go_wp2_with fail
      go_ret
      exact ⟨rfl, low_trans (low_trans (low_trans (low_trans (low_trans hb1 hb2) hb3) hb4) hb5) hb6⟩
namespace ipv6Tells
theorem contract (H : Type) (enc : TypeId × Value → H) (W : World) (base : Nat) (args : Array Value) (ds gs : List (DataW H)) (before : List MemPlace)
    (hval0 : ∀ (j : Nat) t v, Tryd.f3.params[j]? = some t → args[j]? = some v → Value.okWide Tryd.prog W .any base t v)
    (hW : DataW.Whole enc Tryd.prog Tryd.f3.params.toList Rows.ipv6TellsSpec.vars false W args.toList ds gs before) (hSh : W.ShapedOpen Tryd.prog) :
    Calls Tryd.prog 3 args W fun e W' => ∃ v, e = .returned v ∧ Rows.ipv6TellsSpec.post enc Tryd.prog Tryd.f3 false true false false W args v W' := by
  have hval : ∀ (j : Nat) t v, Tryd.f3.params[j]? = some t → args[j]? = some v → Value.okWide Tryd.prog W .any base t v := hval0
  have hW' := hW
  obtain ⟨p, q, hA0, hV, _, _, _⟩ := hW
  have hA : DataW.TrodAll enc Tryd.prog W 0 (fun _ => true) true Tryd.f3.params.toList args.toList ds p := hA0
  rw [Tryd.params3] at hA hval
  obtain ⟨v0, vs0, d0, ds0, p0, q0, hargs, rfl, rfl, h0, r0⟩ := trodAll_cons hA
  obtain ⟨v1, vs1, d1, ds1, p1, q1, rfl, rfl, rfl, h1, r1⟩ := trodAll_cons r0
  obtain ⟨v2, vs2, d2, ds2, p2, q2, rfl, rfl, rfl, h2, r2⟩ := trodAll_cons r1
  obtain ⟨rfl, rfl, rfl⟩ := trodAll_nil r2
  obtain rfl : args = #[v0, v1, v2] := by cases args; simp_all
  obtain ⟨rfl, rfl⟩ := trodVars_none hV
  obtain ⟨b0, rfl, rfl, rfl, w0⟩ := open_int Tryd.underlying22 (hval 0 22 v0 rfl rfl) h0
  obtain ⟨a0, rfl, z0⟩ := nat_of_u64 w0
  obtain ⟨b1, rfl, rfl, rfl, w1⟩ := open_int Tryd.underlying22 (hval 1 22 v1 rfl rfl) h1
  obtain ⟨a1, rfl, z1⟩ := nat_of_u64 w1
  obtain ⟨b2, rfl, rfl, rfl, w2⟩ := ChangeMaps.open_string Tryd.underlying9 (hval 2 9 v2 rfl rfl) h2
  obtain ⟨a2, rfl⟩ : ∃ a : List UInt8, b2 = ⟨a.toArray⟩ := ⟨b2.data.toList, (str_same _).symm⟩
  have z2 : a2.length ≤ 9223372036854775807 := by unfold maxLen at w2; rw [← len_size, str_back] at w2; exact w2
  clear hA0 hval0
  refine (ipv6Tells_walk W a0 z0 a1 z1 a2 (by omega) (V6.Lens.start hSh)).mono fun e W' ⟨he, hg⟩ => ?_
  subst he
  exact ⟨_, rfl, post_law laidOut (by kernel_rfl) (by kernel_rfl) Tryd.underlying4 rfl hW' rfl rfl rfl hg⟩
set_option maxRecDepth 100000 in
theorem lifted (os : Os) (started : os.Started) (H : Type) (enc : TypeId × Value → H) (F : Stop.Interp) :
    ReturnsInHanded {} Tryd.checked os 3 .any ((OpenSpec.ofChange Rows.ipv6TellsSpec).preRow enc Tryd.prog Tryd.f3 Rows.ipv6TellsRow.domain false Rows.ipv6TellsRow.laid) (((OpenSpec.ofChange Rows.ipv6TellsSpec).at F).post enc Tryd.prog Tryd.f3 false true false false) := by
  refine returnsInHanded_of_row (C := Tryd.checked) (s := OpenSpec.ofChange Rows.ipv6TellsSpec) own started (by kernel_rfl) Tryd.func3
    (witness_laid (enc := enc) (C := Tryd.checked) (s := OpenSpec.ofChange Rows.ipv6TellsSpec) (laid := Rows.ipv6TellsRow.laid) #[.int .u64 0, .int .u64 0, .string ByteArray.empty] (World.shaped_of_ZipB (by kernel_rfl) (by kernel_rfl)) (by kernel_rfl)
      (OpenSpec.preRow_of_cond 8 (x := ([.lit (.int .u64 0), .lit (.int .u64 0), .lit (.string [])], [], [])) (by kernel_rfl) (by kernel_rfl) (fun k hk => by cases hk) (by kernel_rfl)
        (by rw [MakeChecks.laidMetH_plain _ _ _ (by kernel_rfl)]; exact laidMet_laidAll _ (by kernel_rfl) (by kernel_rfl)))) ?_
  intro W base args ds gs before hval hW _ hcond _ _ hsh _
  exact contract H enc W base args ds gs before hval hW hsh
theorem over : Rows.ipv6TellsRow.holds Tryd.pinned (OpenSpec.ofChange Rows.ipv6TellsSpec) :=
  OpenClaim.holds_of_cond 3 Tryd.f3 rfl rfl rfl rfl rfl rfl rfl ⟨rfl, rfl, rfl, rfl, rfl⟩ rfl rfl rfl rfl rfl (by kernel_rfl) Tryd.func3 (by kernel_rfl)
    (of_decide_eq_true (by kernel_rfl)) (by unfold Func.isWrapper; first | (rw [if_pos (by decide +kernel)]; kernel_rfl) | (rw [if_neg (by decide +kernel)]; exact ⟨rfl, rfl⟩))
    (fun os started H enc _ F => by rw [OpenClaim.pre_eq_preRow]; exact lifted os started H enc F)
/-- ████ THE STATEMENT ████ -/
theorem proved : Rows.Ipv6TellsCardSaid :=
  Claim7.holds_tied_plain_at .later [] Rows.ipv6TellsCard.laidKinds Rows.ipv6TellsCard.laidTests Rows.ipv6TellsCard.stood.harness Rows.ipv6TellsCard.stood.looks over (fun _ h => by cases h) (by kernel_rfl) (fun _ h => by cases h) ipv6Tells_row_tie rfl ⟨rfl, rfl⟩ (by kernel_rfl) rfl
    (fun f fn hf hfn => by
      obtain rfl : f = 3 := Option.some.inj ((show Tryd.prog.funcNamed Rows.ipv6TellsRow.func = some 3 by kernel_rfl).symm.trans hf) |>.symm
      obtain rfl : fn = Tryd.f3 := (Option.some.inj (Tryd.func3.symm.trans hfn)).symm
      exact ⟨by kernel_rfl, no_standin (by kernel_rfl)⟩)
    (by kernel_rfl)
end ipv6Tells
namespace ipv6Back
theorem contract (H : Type) (enc : TypeId × Value → H) (W : World) (base : Nat) (args : Array Value) (ds gs : List (DataW H)) (before : List MemPlace)
    (hval0 : ∀ (j : Nat) t v, Tryd.f4.params[j]? = some t → args[j]? = some v → Value.okWide Tryd.prog W .any base t v)
    (hW : DataW.Whole enc Tryd.prog Tryd.f4.params.toList Rows.ipv6BackSpec.vars false W args.toList ds gs before) (hSh : W.ShapedOpen Tryd.prog) :
    Calls Tryd.prog 4 args W fun e W' => ∃ v, e = .returned v ∧ Rows.ipv6BackSpec.post enc Tryd.prog Tryd.f4 false true false false W args v W' := by
  have hval : ∀ (j : Nat) t v, Tryd.f4.params[j]? = some t → args[j]? = some v → Value.okWide Tryd.prog W .any base t v := hval0
  have hW' := hW
  obtain ⟨p, q, hA0, hV, _, _, _⟩ := hW
  have hA : DataW.TrodAll enc Tryd.prog W 0 (fun _ => true) true Tryd.f4.params.toList args.toList ds p := hA0
  rw [Tryd.params4] at hA hval
  obtain ⟨v0, vs0, d0, ds0, p0, q0, hargs, rfl, rfl, h0, r0⟩ := trodAll_cons hA
  obtain ⟨v1, vs1, d1, ds1, p1, q1, rfl, rfl, rfl, h1, r1⟩ := trodAll_cons r0
  obtain ⟨rfl, rfl, rfl⟩ := trodAll_nil r1
  obtain rfl : args = #[v0, v1] := by cases args; simp_all
  obtain ⟨rfl, rfl⟩ := trodVars_none hV
  obtain ⟨b0, rfl, rfl, rfl, w0⟩ := open_int Tryd.underlying22 (hval 0 22 v0 rfl rfl) h0
  obtain ⟨a0, rfl, z0⟩ := nat_of_u64 w0
  obtain ⟨b1, rfl, rfl, rfl, w1⟩ := open_int Tryd.underlying22 (hval 1 22 v1 rfl rfl) h1
  obtain ⟨a1, rfl, z1⟩ := nat_of_u64 w1
  clear hA0 hval0
  refine (ipv6Back_walk W a0 z0 a1 z1 (V6.Lens.start hSh)).mono fun e W' ⟨he, hg⟩ => ?_
  subst he
  exact ⟨_, rfl, post_law laidOut (by kernel_rfl) (by kernel_rfl) Tryd.underlying4 rfl hW' rfl rfl rfl hg⟩
set_option maxRecDepth 100000 in
theorem lifted (os : Os) (started : os.Started) (H : Type) (enc : TypeId × Value → H) (F : Stop.Interp) :
    ReturnsInHanded {} Tryd.checked os 4 .any ((OpenSpec.ofChange Rows.ipv6BackSpec).preRow enc Tryd.prog Tryd.f4 Rows.ipv6BackRow.domain false Rows.ipv6BackRow.laid) (((OpenSpec.ofChange Rows.ipv6BackSpec).at F).post enc Tryd.prog Tryd.f4 false true false false) := by
  refine returnsInHanded_of_row (C := Tryd.checked) (s := OpenSpec.ofChange Rows.ipv6BackSpec) own started (by kernel_rfl) Tryd.func4
    (witness_laid (enc := enc) (C := Tryd.checked) (s := OpenSpec.ofChange Rows.ipv6BackSpec) (laid := Rows.ipv6BackRow.laid) #[.int .u64 0, .int .u64 0] (World.shaped_of_ZipB (by kernel_rfl) (by kernel_rfl)) (by kernel_rfl)
      (OpenSpec.preRow_of_cond 8 (x := ([.lit (.int .u64 0), .lit (.int .u64 0)], [], [])) (by kernel_rfl) (by kernel_rfl) (fun k hk => by cases hk) (by kernel_rfl)
        (by rw [MakeChecks.laidMetH_plain _ _ _ (by kernel_rfl)]; exact laidMet_laidAll _ (by kernel_rfl) (by kernel_rfl)))) ?_
  intro W base args ds gs before hval hW _ hcond _ _ hsh _
  exact contract H enc W base args ds gs before hval hW hsh
theorem over : Rows.ipv6BackRow.holds Tryd.pinned (OpenSpec.ofChange Rows.ipv6BackSpec) :=
  OpenClaim.holds_of_cond 4 Tryd.f4 rfl rfl rfl rfl rfl rfl rfl ⟨rfl, rfl, rfl, rfl, rfl⟩ rfl rfl rfl rfl rfl (by kernel_rfl) Tryd.func4 (by kernel_rfl)
    (of_decide_eq_true (by kernel_rfl)) (by unfold Func.isWrapper; first | (rw [if_pos (by decide +kernel)]; kernel_rfl) | (rw [if_neg (by decide +kernel)]; exact ⟨rfl, rfl⟩))
    (fun os started H enc _ F => by rw [OpenClaim.pre_eq_preRow]; exact lifted os started H enc F)
/-- ████ THE STATEMENT ████ -/
theorem proved : Rows.Ipv6BackCardSaid :=
  Claim7.holds_tied_plain_at .later [] Rows.ipv6BackCard.laidKinds Rows.ipv6BackCard.laidTests Rows.ipv6BackCard.stood.harness Rows.ipv6BackCard.stood.looks over (fun _ h => by cases h) (by kernel_rfl) (fun _ h => by cases h) ipv6Back_row_tie rfl ⟨rfl, rfl⟩ (by kernel_rfl) rfl
    (fun f fn hf hfn => by
      obtain rfl : f = 4 := Option.some.inj ((show Tryd.prog.funcNamed Rows.ipv6BackRow.func = some 4 by kernel_rfl).symm.trans hf) |>.symm
      obtain rfl : fn = Tryd.f4 := (Option.some.inj (Tryd.func4.symm.trans hfn)).symm
      exact ⟨by kernel_rfl, no_standin (by kernel_rfl)⟩)
    (by kernel_rfl)
end ipv6Back
namespace ipv6Short
theorem contract (H : Type) (enc : TypeId × Value → H) (W : World) (base : Nat) (args : Array Value) (ds gs : List (DataW H)) (before : List MemPlace)
    (hval0 : ∀ (j : Nat) t v, Tryd.f5.params[j]? = some t → args[j]? = some v → Value.okWide Tryd.prog W .any base t v)
    (hW : DataW.Whole enc Tryd.prog Tryd.f5.params.toList Rows.ipv6ShortSpec.vars false W args.toList ds gs before) (hSh : W.ShapedOpen Tryd.prog) :
    Calls Tryd.prog 5 args W fun e W' => ∃ v, e = .returned v ∧ Rows.ipv6ShortSpec.post enc Tryd.prog Tryd.f5 false true false false W args v W' := by
  have hval : ∀ (j : Nat) t v, Tryd.f5.params[j]? = some t → args[j]? = some v → Value.okWide Tryd.prog W .any base t v := hval0
  have hW' := hW
  obtain ⟨p, q, hA0, hV, _, _, _⟩ := hW
  have hA : DataW.TrodAll enc Tryd.prog W 0 (fun _ => true) true Tryd.f5.params.toList args.toList ds p := hA0
  rw [Tryd.params5] at hA hval
  obtain ⟨v0, vs0, d0, ds0, p0, q0, hargs, rfl, rfl, h0, r0⟩ := trodAll_cons hA
  obtain ⟨v1, vs1, d1, ds1, p1, q1, rfl, rfl, rfl, h1, r1⟩ := trodAll_cons r0
  obtain ⟨v2, vs2, d2, ds2, p2, q2, rfl, rfl, rfl, h2, r2⟩ := trodAll_cons r1
  obtain ⟨rfl, rfl, rfl⟩ := trodAll_nil r2
  obtain rfl : args = #[v0, v1, v2] := by cases args; simp_all
  obtain ⟨rfl, rfl⟩ := trodVars_none hV
  obtain ⟨b0, rfl, rfl, rfl, w0⟩ := open_int Tryd.underlying22 (hval 0 22 v0 rfl rfl) h0
  obtain ⟨a0, rfl, z0⟩ := nat_of_u64 w0
  obtain ⟨b1, rfl, rfl, rfl, w1⟩ := open_int Tryd.underlying22 (hval 1 22 v1 rfl rfl) h1
  obtain ⟨a1, rfl, z1⟩ := nat_of_u64 w1
  obtain ⟨b2, rfl, rfl, rfl, w2⟩ := ChangeMaps.open_string Tryd.underlying9 (hval 2 9 v2 rfl rfl) h2
  obtain ⟨a2, rfl⟩ : ∃ a : List UInt8, b2 = ⟨a.toArray⟩ := ⟨b2.data.toList, (str_same _).symm⟩
  have z2 : a2.length ≤ 9223372036854775807 := by unfold maxLen at w2; rw [← len_size, str_back] at w2; exact w2
  clear hA0 hval0
  refine (ipv6Short_walk W a0 z0 a1 z1 a2 (by omega) (V6.Lens.start hSh)).mono fun e W' ⟨he, hg⟩ => ?_
  subst he
  exact ⟨_, rfl, post_law laidOut (by kernel_rfl) (by kernel_rfl) Tryd.underlying4 rfl hW' rfl rfl rfl hg⟩
set_option maxRecDepth 100000 in
theorem lifted (os : Os) (started : os.Started) (H : Type) (enc : TypeId × Value → H) (F : Stop.Interp) :
    ReturnsInHanded {} Tryd.checked os 5 .any ((OpenSpec.ofChange Rows.ipv6ShortSpec).preRow enc Tryd.prog Tryd.f5 Rows.ipv6ShortRow.domain false Rows.ipv6ShortRow.laid) (((OpenSpec.ofChange Rows.ipv6ShortSpec).at F).post enc Tryd.prog Tryd.f5 false true false false) := by
  refine returnsInHanded_of_row (C := Tryd.checked) (s := OpenSpec.ofChange Rows.ipv6ShortSpec) own started (by kernel_rfl) Tryd.func5
    (witness_laid (enc := enc) (C := Tryd.checked) (s := OpenSpec.ofChange Rows.ipv6ShortSpec) (laid := Rows.ipv6ShortRow.laid) #[.int .u64 0, .int .u64 0, .string ByteArray.empty] (World.shaped_of_ZipB (by kernel_rfl) (by kernel_rfl)) (by kernel_rfl)
      (OpenSpec.preRow_of_cond 8 (x := ([.lit (.int .u64 0), .lit (.int .u64 0), .lit (.string [])], [], [])) (by kernel_rfl) (by kernel_rfl) (fun k hk => by cases hk) (by kernel_rfl)
        (by rw [MakeChecks.laidMetH_plain _ _ _ (by kernel_rfl)]; exact laidMet_laidAll _ (by kernel_rfl) (by kernel_rfl)))) ?_
  intro W base args ds gs before hval hW _ hcond _ _ hsh _
  exact contract H enc W base args ds gs before hval hW hsh
theorem over : Rows.ipv6ShortRow.holds Tryd.pinned (OpenSpec.ofChange Rows.ipv6ShortSpec) :=
  OpenClaim.holds_of_cond 5 Tryd.f5 rfl rfl rfl rfl rfl rfl rfl ⟨rfl, rfl, rfl, rfl, rfl⟩ rfl rfl rfl rfl rfl (by kernel_rfl) Tryd.func5 (by kernel_rfl)
    (of_decide_eq_true (by kernel_rfl)) (by unfold Func.isWrapper; first | (rw [if_pos (by decide +kernel)]; kernel_rfl) | (rw [if_neg (by decide +kernel)]; exact ⟨rfl, rfl⟩))
    (fun os started H enc _ F => by rw [OpenClaim.pre_eq_preRow]; exact lifted os started H enc F)
/-- ████ THE STATEMENT ████ -/
theorem proved : Rows.Ipv6ShortCardSaid :=
  Claim7.holds_tied_plain_at .later [] Rows.ipv6ShortCard.laidKinds Rows.ipv6ShortCard.laidTests Rows.ipv6ShortCard.stood.harness Rows.ipv6ShortCard.stood.looks over (fun _ h => by cases h) (by kernel_rfl) (fun _ h => by cases h) ipv6Short_row_tie rfl ⟨rfl, rfl⟩ (by kernel_rfl) rfl
    (fun f fn hf hfn => by
      obtain rfl : f = 5 := Option.some.inj ((show Tryd.prog.funcNamed Rows.ipv6ShortRow.func = some 5 by kernel_rfl).symm.trans hf) |>.symm
      obtain rfl : fn = Tryd.f5 := (Option.some.inj (Tryd.func5.symm.trans hfn)).symm
      exact ⟨by kernel_rfl, no_standin (by kernel_rfl)⟩)
    (by kernel_rfl)
end ipv6Short
end Go.Proofs.YtglbnoiphkabcaaDoor
