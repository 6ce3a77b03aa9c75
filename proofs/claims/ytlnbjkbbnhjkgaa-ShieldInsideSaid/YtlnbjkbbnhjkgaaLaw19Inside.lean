/- The second statement of layer 19, proved: of peers with unlike ends, who is among the first of all, by a quota, is protected; for all lists of peers, all quotas and all secrets. -/
import Derived.Test.YtlnbjkbbnhjkgaaLaw19
namespace Go.Proofs.Ytlnbjkbbnhjkgaa
set_option maxRecDepth 100000
open Go.ChangeShapes Go.WideShapes Go.ChangeAt Go.RowKit
open Dec Words V4 V6 Ad Ci En Sat Ha Pe Stb Gr Mi Ra Sh Go.Deep
set_option linter.unusedVariables false
set_option maxHeartbeats 24000000 in
theorem shieldInside_walk (w : World) (v : Value) (l : List Pr) (h : Peers w v l) (hok : ∀ x ∈ l, x.ok) (q : Qt) (hq : q.ok) (s : Nat) (hs : s < 18446744073709551616) :
    Calls Try.prog 4 #[v, .agg #[.int .i64 q.g, .int .i64 q.p, .int .i64 q.w, .int .i64 q.t], .int .u64 (s : Nat)] w fun e w' => e = .returned (.bool true) ∧ Below w.heap.size w w' := by
  have PW := Lib.hid h
  have AW := Lib.hid (fun W => awake19_any W)
  obtain ⟨A, c, rfl, hc, _, hcell⟩ := h
  have HC := Lib.hid hcell
  have HOK := Lib.hid hok
  have HS := Lib.hid hs
  have OB : Hid (Blk (w.alloc (.cells #[.int .i64 q.g, .int .i64 q.p, .int .i64 q.w, .int .i64 q.t] 24)) w.heap.size 24 [.int .i64 q.g, .int .i64 q.p, .int .i64 q.w, .int .i64 q.t]) := Lib.hid (Blk.new w #[.int .i64 q.g, .int .i64 q.p, .int .i64 q.w, .int .i64 q.t] 24)
  have L0 : Hid (Lows w (w.alloc (.cells #[.int .i64 q.g, .int .i64 q.p, .int .i64 q.w, .int .i64 q.t] 24))) := Lib.hid (Lows.alloc (Lows.self w) _)
  clear hcell hok hs hq
  by_cases h30 : 30 < l.length
  · have h30z : (30 : Int) < (l.length : Int) := by omega
    go_enter Try.func4, Try.ntmps4
    go_wp2_with fail
    refine (AW.out _).mono ?_; rintro e w1 ⟨rfl, hb1⟩
    go_wp2_with fail
    go_ret
    exact ⟨rfl, low_trans L0.out hb1⟩
  · have h30z : ¬ (30 : Int) < (l.length : Int) := by omega
    have hl1 : l.length ≤ 1000000 := by omega
    go_enter Try.func4, Try.ntmps4
    go_wp2_with fail
    go_loopw [7] (fun vi wr => ∃ i : Nat, vi = .int .i64 i ∧ i ≤ l.length ∧ Hid (∀ p q, p < q → q < i → (l[p]!).e ≠ (l[q]!).e) ∧ Hid (Lows (w.alloc (.cells #[.int .i64 q.g, .int .i64 q.p, .int .i64 q.w, .int .i64 q.t] 24)) wr)) (fun vi _ => l.length - (intOf vi).toNat)
    case atStart => exact ⟨0, rfl, Nat.zero_le _, Lib.hid (fun p q _ h => by omega), Lib.hid (Lows.self _)⟩
    case round =>
      obtain ⟨i, rfl, hi, HD, HL⟩ := hrel
      by_cases hli : i < l.length
      · have hliz : (i : Int) < (l.length : Int) := by omega
        obtain ⟨W, hW⟩ : ∃ W, W = wr := ⟨_, rfl⟩
        subst hW
        go_wp2_with fail
        go_loopw [8] (fun vk wr => ∃ k : Nat, vk = .int .i64 k ∧ k ≤ i ∧ Hid (∀ p, p < k → (l[p]!).e ≠ (l[i]!).e) ∧ Hid (Lows (w.alloc (.cells #[.int .i64 q.g, .int .i64 q.p, .int .i64 q.w, .int .i64 q.t] 24)) wr)) (fun vk _ => i - (intOf vk).toNat)
        case atStart => exact ⟨0, rfl, Nat.zero_le _, Lib.hid (fun p h => by omega), HL⟩
        case round =>
          obtain ⟨k, rfl, hk, HE, HL2⟩ := hrel
          by_cases hki : k < i
          · have hkiz : (k : Int) < (i : Int) := by omega
            have hlk : k < l.length := by omega
            have hlkz : (k : Int) < (l.length : Int) := by omega
            have HLW : Hid (Below w.heap.size w wr) := Lib.hid (low_trans L0.out HL2.out)
            obtain ⟨bb, o, rfl, hb9, hcc⟩ := HC.out (by omega)
            have hne : Nonempty (Cls (Lows wr)) := ⟨⟨_, Lows.self _⟩⟩
            obtain ⟨x, hx⟩ : ∃ x, x = l[i]! := ⟨_, rfl⟩
            have f0 : ∀ nq : Cls (Lows wr), nq.w.cell? ⟨bb, o + i * 10, none⟩ = some (.bool x.e.a.v6) := fun nq => by rw [hx]; exact peer_at (low_trans'' HLW.out nq.h) hb9 hcc hli (j := 0) rfl
            have f1 : ∀ nq : Cls (Lows wr), nq.w.cell? ⟨bb, o + i * 10 + 1, none⟩ = some (.int .u64 x.e.a.hi) := fun nq => by rw [hx]; exact peer_at (low_trans'' HLW.out nq.h) hb9 hcc hli (j := 1) rfl
            have f2 : ∀ nq : Cls (Lows wr), nq.w.cell? ⟨bb, o + i * 10 + 2, none⟩ = some (.int .u64 x.e.a.lo) := fun nq => by rw [hx]; exact peer_at (low_trans'' HLW.out nq.h) hb9 hcc hli (j := 2) rfl
            have f3 : ∀ nq : Cls (Lows wr), nq.w.cell? ⟨bb, o + i * 10 + 3, none⟩ = some (.int .i64 x.e.n) := fun nq => by rw [hx]; exact peer_at (low_trans'' HLW.out nq.h) hb9 hcc hli (j := 3) rfl
            have Hx := Lib.hid hx
            clear hx
            obtain ⟨z, hz⟩ : ∃ x, x = l[k]! := ⟨_, rfl⟩
            have g0 : ∀ nq : Cls (Lows wr), nq.w.cell? ⟨bb, o + k * 10, none⟩ = some (.bool z.e.a.v6) := fun nq => by rw [hz]; exact peer_at (low_trans'' HLW.out nq.h) hb9 hcc hlk (j := 0) rfl
            have g1 : ∀ nq : Cls (Lows wr), nq.w.cell? ⟨bb, o + k * 10 + 1, none⟩ = some (.int .u64 z.e.a.hi) := fun nq => by rw [hz]; exact peer_at (low_trans'' HLW.out nq.h) hb9 hcc hlk (j := 1) rfl
            have g2 : ∀ nq : Cls (Lows wr), nq.w.cell? ⟨bb, o + k * 10 + 2, none⟩ = some (.int .u64 z.e.a.lo) := fun nq => by rw [hz]; exact peer_at (low_trans'' HLW.out nq.h) hb9 hcc hlk (j := 2) rfl
            have g3 : ∀ nq : Cls (Lows wr), nq.w.cell? ⟨bb, o + k * 10 + 3, none⟩ = some (.int .i64 z.e.n) := fun nq => by rw [hz]; exact peer_at (low_trans'' HLW.out nq.h) hb9 hcc hlk (j := 3) rfl
            have Hz := Lib.hid hz
            clear hz
            have EQ := fun W => eqEnd x.e z.e W
            clear hcc hb9
            cases hs : sameE x.e z.e with
            | true =>
              rw [hs] at EQ
              clear hs
              go_wp2_with fail
              refine Cls.region (Lows wr) (by kernel_rfl) (by kernel_rfl) (low_drewN (Below.refl _ _) 1) ?_
              (try dsimp only [List.append])
              repeat (go_big_quiet_step (first | fail))
              refine wpQuiet_nil ?_
              intro n9
              have hk9 := n9.h
              generalize n9.w = w9 at hk9 ⊢
              clear hne n9 EQ f0 f1 f2 f3 g0 g1 g2 g3
              go_wp2_with fail
              refine (AW.out _).mono ?_; rintro e w1 ⟨rfl, hb1⟩
              have HF := Lib.hid (low_trans L0.out (low_trans HL2.out (low_trans hk9 hb1)))
              clear hb1
              go_wp2_with fail
              go_ret
              exact ⟨rfl, HF.out⟩
            | false =>
              have HE2 : Hid (∀ p, p < k + 1 → (l[p]!).e ≠ (l[i]!).e) := Lib.hid (fun p hp e => by
                by_cases c : p = k
                · subst c
                  rw [← Hz.out, ← Hx.out] at e
                  rw [(sameE_iff x.e z.e).2 e.symm] at hs
                  cases hs
                · exact HE.out p (by omega) e)
              rw [hs] at EQ
              clear hs
              go_wp2_with fail
              refine Cls.region (Lows wr) (by kernel_rfl) (by kernel_rfl) (low_drewN (Below.refl _ _) 1) ?_
              (try dsimp only [List.append])
              repeat (go_big_quiet_step (first | fail))
              refine wpQuiet_nil ?_
              intro n9
              have hk9 := n9.h
              generalize n9.w = w9 at hk9 ⊢
              clear hne n9 EQ f0 f1 f2 f3 g0 g1 g2 g3
              go_wp2_with fail
              go_roundw
              case rel => exact ⟨k + 1, by go_num, by omega, HE2, Lib.hid (low_trans HL2.out hk9)⟩
              case measure => simp [intOf]; omega
          · have hkiz : ¬ (k : Int) < (i : Int) := by omega
            have HD2 : Hid (∀ p q, p < q → q < i + 1 → (l[p]!).e ≠ (l[q]!).e) := Lib.hid (fun p q hp hq => by
              by_cases c : q = i
              · subst c; exact HE.out p (by omega)
              · exact HD.out p q hp (by omega))
            go_wp2_with fail
            go_roundw
            case rel => exact ⟨i + 1, by go_num, by omega, HD2, HL2⟩
            case measure => simp [intOf]; omega
      · have hliz : ¬ (i : Int) < (l.length : Int) := by omega
        have HU : Hid (Unlike l) := Lib.hid (List.pairwise_iff_getElem.2 fun p q hp hq hpq => by
          have h := HD.out p q hpq (by omega)
          rw [getElem!_pos l p hp, getElem!_pos l q hq] at h
          exact h)
        have HIN : Hid (∀ j, j < l.length → insideR l j q s = true → savedR l q s 4 j = true) := Lib.hid fun j hj h => by
          unfold insideR at h
          rw [decide_eq_true (by omega), Int.toNat_natCast, Bool.true_and] at h
          exact inside_saved HU.out hj h
        have bc0 := Blk.in OB HL.out (j := 0) rfl
        have bc1 := Blk.in OB HL.out (j := 1) rfl
        have bc2 := Blk.in OB HL.out (j := 2) rfl
        have bc3 := Blk.in OB HL.out (j := 3) rfl
        have KS := Lib.hid (saved_any _ l q s wr (PW.out.below (low_trans L0.out HL.out)) HOK.out hl1 HS.out)
        clear HD hi hli HU
        go_wp2_with fail
        refine KS.out.mono ?_; rintro e w1 ⟨u, rfl, hB, hb1⟩
        have L1 := Lib.hid (low_trans HL.out hb1)
        obtain ⟨A2, c2, rfl, hc2, _, hcell2⟩ := hB
        have HC2 := Lib.hid hcell2
        have HLN : Hid ((ls l.length (savedR l q s 4)).length = l.length) := Lib.hid (ls_length _ _)
        rw [ls_length]
        have z0 : ((l.length : Int) != (l.length : Int)) = false := by simp
        clear hb1 hcell2 hc2 KS bc0 bc1 bc2 bc3
        go_wp2_with fail
        go_loopw [10] (fun vi wr => ∃ j : Nat, vi = .int .i64 j ∧ j ≤ l.length ∧ Hid (Lows w1 wr)) (fun vi _ => l.length - (intOf vi).toNat)
        case atStart => exact ⟨0, rfl, Nat.zero_le _, Lib.hid (Lows.self _)⟩
        case round =>
          obtain ⟨j, rfl, hj, HLR⟩ := hrel
          have LW0 : Hid (Lows (w.alloc (.cells #[.int .i64 q.g, .int .i64 q.p, .int .i64 q.w, .int .i64 q.t] 24)) wr) := Lib.hid (low_trans L1.out HLR.out)
          by_cases hlj : j < l.length
          · have hljz : (j : Int) < (l.length : Int) := by omega
            obtain ⟨b2, o2, rfl, hb2, hcc2⟩ := HC2.out (by rw [HLN.out]; omega)
            have HIJ := HIN.out j hlj
            have HX : Hid (∀ W, Lows wr W → W.cell? ⟨b2, o2 + j, none⟩ = some (.bool (savedR l q s 4 j))) := Lib.hid fun W h => bool_at (low_trans HLR.out h) hb2 hcc2 hlj
            have KI0 : Hid (Calls Try.prog 7 #[.slice A l.length c, .int .i64 j, .agg #[.int .i64 q.g, .int .i64 q.p, .int .i64 q.w, .int .i64 q.t], .int .u64 (s : Nat)] wr fun e w' => e = .returned (.bool (insideR l j q s)) ∧ Below wr.heap.size wr w') := Lib.hid (inside_any _ l j q s wr (PW.out.below (low_trans L0.out LW0.out)) HOK.out hl1 HS.out)
            have KI := KI0
            have bc0 := Blk.in OB LW0.out (j := 0) rfl
            have bc1 := Blk.in OB LW0.out (j := 1) rfl
            have bc2 := Blk.in OB LW0.out (j := 2) rfl
            have bc3 := Blk.in OB LW0.out (j := 3) rfl
            generalize insideR l j q s = II at KI HIJ
            generalize savedR l q s 4 j = SS at HX HIJ
            clear hcc2 hb2 KI0
            cases II with
            | true =>
              obtain rfl := HIJ rfl
              clear HIJ
              go_wp2_with fail
              refine KI.out.mono ?_; rintro e w9 ⟨rfl, hb9⟩
              have c0 := HX.out w9 hb9
              have HN := Lib.hid (low_trans HLR.out hb9)
              clear hb9 KI HX bc0 bc1 bc2 bc3
              go_wp2_with fail
              go_roundw
              case rel => exact ⟨j + 1, by go_num, by omega, HN⟩
              case measure => simp [intOf]; omega
            | false =>
              clear HIJ
              go_wp2_with fail
              refine KI.out.mono ?_; rintro e w9 ⟨rfl, hb9⟩
              have HN := Lib.hid (low_trans HLR.out hb9)
              clear hb9 KI HX bc0 bc1 bc2 bc3
              go_wp2_with fail
              go_roundw
              case rel => exact ⟨j + 1, by go_num, by omega, HN⟩
              case measure => simp [intOf]; omega
          · have hljz : ¬ (j : Int) < (l.length : Int) := by omega
            go_wp2_with fail
            refine (AW.out _).mono ?_; rintro e w9 ⟨rfl, hb9⟩
            have HFN := Lib.hid (low_trans L0.out (low_trans LW0.out hb9))
            clear hb9
            go_wp2_with fail
            go_ret
            exact ⟨rfl, HFN.out⟩
namespace shieldInside
theorem contract (H : Type) (enc : TypeId × Value → H) (W : World) (base : Nat) (args : Array Value) (ds gs : List (DataW H)) (before : List MemPlace)
    (hval0 : ∀ (j : Nat) t v, Try.f4.params[j]? = some t → args[j]? = some v → Value.okWide Try.prog W .any base t v)
    (hW : DataW.Whole enc Try.prog Try.f4.params.toList Rows.shieldInsideSpec.vars false W args.toList ds gs before) (hSh : W.ShapedOpen Try.prog) :
    Calls Try.prog 4 args W fun e W' => ∃ v, e = .returned v ∧ Rows.shieldInsideSpec.post enc Try.prog Try.f4 false true false false W args v W' := by
  have hval : ∀ (j : Nat) t v, Try.f4.params[j]? = some t → args[j]? = some v → Value.okWide Try.prog W .any base t v := hval0
  have hW' := hW
  obtain ⟨p, q, hA0, hV, _, _, _⟩ := hW
  have hA : DataW.TrodAll enc Try.prog W 0 (fun _ => true) true Try.f4.params.toList args.toList ds p := hA0
  rw [Try.params4] at hA hval
  obtain ⟨v0, vs0, d0, ds0, p0, q0, hargs, rfl, rfl, h0, r0⟩ := trodAll_cons hA
  obtain ⟨v1, vs1, d1, ds1, p1, q1, rfl, rfl, rfl, h1, r1⟩ := trodAll_cons r0
  obtain ⟨v2, vs2, d2, ds2, p2, q2, rfl, rfl, rfl, h2, r2⟩ := trodAll_cons r1
  obtain ⟨rfl, rfl, rfl⟩ := trodAll_nil r2
  obtain rfl : args = #[v0, v1, v2] := by cases args; simp_all
  obtain ⟨rfl, rfl⟩ := trodVars_none hV
  obtain ⟨l0, t0, n0, s0⟩ := open_peers (hval 0 22 v0 rfl rfl) h0
  obtain ⟨a1, z1, rfl⟩ := open_quota (hval 1 24 v1 rfl rfl) h1
  obtain ⟨b2, rfl, rfl, rfl, w2⟩ := open_int Try.underlying25 (hval 2 25 v2 rfl rfl) h2
  obtain ⟨a2, rfl, z2⟩ := nat_of_u64 w2
  clear hA0 hval0
  refine (shieldInside_walk W v0 l0 t0 s0 a1 z1 a2 z2).mono fun e W' ⟨he, hg⟩ => ?_
  subst he
  exact ⟨_, rfl, post_law laidOut (by kernel_rfl) (by kernel_rfl) Try.underlying4 rfl hW' rfl rfl rfl hg⟩
set_option maxRecDepth 100000 in
theorem lifted (os : Os) (started : os.Started) (H : Type) (enc : TypeId × Value → H) (F : Stop.Interp) :
    ReturnsInHanded {} Try.checked os 4 .any ((OpenSpec.ofChange Rows.shieldInsideSpec).preRow enc Try.prog Try.f4 Rows.shieldInsideRow.domain false Rows.shieldInsideRow.laid) (((OpenSpec.ofChange Rows.shieldInsideSpec).at F).post enc Try.prog Try.f4 false true false false) := by
  refine returnsInHanded_of_row (C := Try.checked) (s := OpenSpec.ofChange Rows.shieldInsideSpec) own started (by kernel_rfl) Try.func4
    (witness_laid (enc := enc) (C := Try.checked) (s := OpenSpec.ofChange Rows.shieldInsideSpec) (laid := Rows.shieldInsideRow.laid) #[.slice none 0 0, .agg #[.int .i64 0, .int .i64 0, .int .i64 0, .int .i64 0], .int .u64 0] (World.shaped_of_ZipB (by kernel_rfl) (by kernel_rfl)) (by kernel_rfl)
      (OpenSpec.preRow_of_cond 8 (x := ([.nil, .agg [.lit (.int .i64 0), .lit (.int .i64 0), .lit (.int .i64 0), .lit (.int .i64 0)], .lit (.int .u64 0)], [], [])) (by kernel_rfl) (by kernel_rfl) (fun k hk => by cases hk) (by kernel_rfl)
        (by rw [MakeChecks.laidMetH_plain _ _ _ (by kernel_rfl)]; exact laidMet_laidAll _ (by kernel_rfl) (by kernel_rfl)))) ?_
  intro W base args ds gs before hval hW _ hcond _ _ hsh _
  exact contract H enc W base args ds gs before hval hW hsh
theorem over : Rows.shieldInsideRow.holds Try.pinned (OpenSpec.ofChange Rows.shieldInsideSpec) :=
  OpenClaim.holds_of_cond 4 Try.f4 rfl rfl rfl rfl rfl rfl rfl ⟨rfl, rfl, rfl, rfl, rfl⟩ rfl rfl rfl rfl rfl (by kernel_rfl) Try.func4 (by kernel_rfl)
    (of_decide_eq_true (by kernel_rfl)) (by unfold Func.isWrapper; first | (rw [if_pos (by decide +kernel)]; kernel_rfl) | (rw [if_neg (by decide +kernel)]; exact ⟨rfl, rfl⟩))
    (fun os started H enc _ F => by rw [OpenClaim.pre_eq_preRow]; exact lifted os started H enc F)
/-- ████ THE STATEMENT ████ -/
theorem proved : Rows.ShieldInsideSaid := over
end shieldInside
end Go.Proofs.Ytlnbjkbbnhjkgaa
