/- The second statement of layer 13, proved: an address is banned as long as its longest ban, and what was swept changes nothing; for all lists, addresses and ticks. -/
import Derived.Test.YtcjdfgpkcafpdaaLaw13
namespace Go.Proofs.Ytcjdfgpkcafpdaa
set_option maxRecDepth 100000
open Go.ChangeShapes Go.WideShapes Go.ChangeAt Go.RowKit
open Dec Words V4 V6 Ad Ci Ba
set_option linter.unusedVariables false
set_option maxHeartbeats 4000000 in
theorem bansUntil_walk (w : World) (v : Value) (l : List Ban) (h : Bans w v l) (hok : ∀ x ∈ l, x.ok) (a : Adr) (ha : a.ok) (now : Int) (hn : -9223372036854775808 ≤ now ∧ now ≤ 9223372036854775807) :
    Calls Try.prog 4 #[v, .agg #[.bool a.v6, .int .u64 a.hi, .int .u64 a.lo], .int .i64 now] w fun e w' => e = .returned (.bool true) ∧ Below w.heap.size w w' := by
  have LOW : Below w.heap.size w (w.alloc (.cells #[.bool a.v6, .int .u64 a.hi, .int .u64 a.lo] 25)) := (Below.refl _ _).alloc (Nat.le_refl _) _
  have HV := Lib.hid h
  have AW := Lib.hid (fun W => awake13_any W)
  obtain ⟨A, c, rfl, -, -, -⟩ := h
  have k0 : (w.alloc (.cells #[.bool a.v6, .int .u64 a.hi, .int .u64 a.lo] 25)).cell? ⟨w.heap.size, 0, none⟩ = some (.bool a.v6) := cell_at _ _ _ 0 _ rfl
  have k1 : (w.alloc (.cells #[.bool a.v6, .int .u64 a.hi, .int .u64 a.lo] 25)).cell? ⟨w.heap.size, 1, none⟩ = some (.int .u64 a.hi) := cell_at _ _ _ 1 _ rfl
  have k2 : (w.alloc (.cells #[.bool a.v6, .int .u64 a.hi, .int .u64 a.lo] 25)).cell? ⟨w.heap.size, 2, none⟩ = some (.int .u64 a.lo) := cell_at _ _ _ 2 _ rfl
  by_cases hl : 60 < l.length
  · have hd : (60 : Int) < (l.length : Int) := by omega
    clear k0 k1 k2
    go_enter Try.func4, Try.ntmps4
    go_wp2_with fail
    refine (AW.out _).mono ?_
    rintro e w1 ⟨rfl, hb⟩
    go_wp2_with fail
    go_ret
    exact ⟨rfl, low_trans LOW hb⟩
  · have hd : ¬ (60 : Int) < (l.length : Int) := by omega
    have K1 := Lib.hid (fun v l (hl : l.length ≤ 60) (hok : ∀ x ∈ l, x.ok) W h => until_any v l a now W h (by omega) hok ha)
    have K2 := Lib.hid (fun W h => runtil_any (.slice A l.length c) l a now W h (by omega) hok ha)
    have K3 := Lib.hid (fun W h => sweep_any (.slice A l.length c) l now W h (by omega) hok)
    have hz := until_zero l a now
    have hsw := sweep_le l now
    have hsk := Lib.hid (sweep_ok (P := Ban.ok) hok now)
    have HS := Lib.hid (until_sweep l a now)
    have K1l := Lib.hid (K1.out (.slice A l.length c) l (by omega) hok)
    have K1s := Lib.hid (fun v W h => K1.out v (sweepL l now) (by omega) hsk.out W h)
    rw [HS.out] at K1s
    clear HS K1
    generalize untilL l a now = n at *
    generalize hm : sweepL l now = m at *
    clear hm
    have e1 : (n != n) = false := by simp
    have e2 : (n == n) = true := by simp
    go_enter Try.func4, Try.ntmps4
    go_wp2_with fail
    refine (K1l.out _ (HV.out.below LOW)).mono ?_
    rintro e w1 ⟨rfl, hb1⟩
    have q0 := cells_left hb1 k0
    have q1 := cells_left hb1 k1
    have q2 := cells_left hb1 k2
    clear k0 k1 k2
    have LOW1 := low_trans LOW hb1
    go_wp2_with fail
    refine (K2.out _ (HV.out.below LOW1)).mono ?_
    rintro e w2 ⟨rfl, hb2⟩
    have r0 := cells_left hb2 q0
    have r1 := cells_left hb2 q1
    have r2 := cells_left hb2 q2
    clear q0 q1 q2
    have LOW2 := low_trans LOW1 hb2
    go_wp2_with fail
    refine (K3.out _ (HV.out.below LOW2)).mono ?_
    rintro e w3 ⟨u, rfl, hR3, hb3⟩
    have p0 := cells_left hb3 r0
    have p1 := cells_left hb3 r1
    have p2 := cells_left hb3 r2
    clear r0 r1 r2
    have LOW3 := low_trans LOW2 hb3
    have HR3 := Lib.hid hR3
    obtain ⟨B, c3, rfl, -, -, -⟩ := hR3
    clear LOW LOW1 LOW2 hb1 hb2 hb3
    go_wp2_with fail
    refine (K1s.out _ _ HR3.out).mono ?_
    rintro e w4 ⟨rfl, hb4⟩
    have LOW4 := Lib.hid (low_trans LOW3 hb4)
    clear hb4 LOW3 p0 p1 p2
    rcases hz with rfl | hz
    · go_wp2_with fail
      refine (AW.out _).mono ?_
      rintro e w5 ⟨rfl, hb5⟩
      go_wp2_with fail
      go_ret
      exact ⟨rfl, low_trans LOW4.out hb5⟩
    · by_cases h0 : n = 0
      · subst h0
        go_wp2_with fail
        refine (AW.out _).mono ?_
        rintro e w5 ⟨rfl, hb5⟩
        go_wp2_with fail
        go_ret
        exact ⟨rfl, low_trans LOW4.out hb5⟩
      · go_wp2_with fail
        refine (AW.out _).mono ?_
        rintro e w5 ⟨rfl, hb5⟩
        go_wp2_with fail
        go_ret
        exact ⟨rfl, low_trans LOW4.out hb5⟩
namespace bansUntil
theorem contract (H : Type) (enc : TypeId × Value → H) (W : World) (base : Nat) (args : Array Value) (ds gs : List (DataW H)) (before : List MemPlace)
    (hval0 : ∀ (j : Nat) t v, Try.f4.params[j]? = some t → args[j]? = some v → Value.okWide Try.prog W .any base t v)
    (hW : DataW.Whole enc Try.prog Try.f4.params.toList Rows.bansUntilSpec.vars false W args.toList ds gs before) (hSh : W.ShapedOpen Try.prog) :
    Calls Try.prog 4 args W fun e W' => ∃ v, e = .returned v ∧ Rows.bansUntilSpec.post enc Try.prog Try.f4 false true false false W args v W' := by
  have hval : ∀ (j : Nat) t v, Try.f4.params[j]? = some t → args[j]? = some v → Value.okWide Try.prog W .any base t v := hval0
  have hW' := hW
  obtain ⟨p, q, hA0, hV, _, _, _⟩ := hW
  have hA : DataW.TrodAll enc Try.prog W 0 (fun _ => true) true Try.f4.params.toList args.toList ds p := hA0
  rw [Try.params4] at hA hval
  obtain ⟨v0, vs0, d0, ds0, p0, q0, hargs, rfl, rfl, h0, r0⟩ := trodAll_cons hA
  obtain ⟨v1, vs1, d1, ds1, p1, q1, rfl, rfl, rfl, h1, r1⟩ := trodAll_cons r0
  obtain ⟨v2, vs2, d2, ds2, p2, q2, rfl, rfl, rfl, h2, r2⟩ := trodAll_cons r1
  obtain ⟨rfl, rfl, rfl⟩ := trodAll_nil r2
  obtain rfl : args = #[v0, v1, v2] := by cases args; simp_all
  obtain ⟨rfl, rfl⟩ := trodVars_none hV
  obtain ⟨l0, t0, n0, s0⟩ := open_bans (hval 0 22 v0 rfl rfl) h0
  obtain ⟨a1, z1, rfl, rfl, rfl⟩ := open_adr (tb := 4) (ti := 23) Try.underlying25 (by kernel_rfl) (by kernel_rfl) rfl rfl rfl Try.underlying4 Try.underlying23 (hval 1 25 v1 rfl rfl) h1
  obtain ⟨b2, rfl, rfl, rfl, w2⟩ := open_int Try.underlying3 (hval 2 3 v2 rfl rfl) h2
  clear hA0 hval0
  refine (bansUntil_walk W v0 l0 t0 s0 a1 z1 b2 (wf64 w2)).mono fun e W' ⟨he, hg⟩ => ?_
  subst he
  exact ⟨_, rfl, post_law laidOut (by kernel_rfl) (by kernel_rfl) Try.underlying4 rfl hW' rfl rfl rfl hg⟩
set_option maxRecDepth 100000 in
theorem lifted (os : Os) (started : os.Started) (H : Type) (enc : TypeId × Value → H) (F : Stop.Interp) :
    ReturnsInHanded {} Try.checked os 4 .any ((OpenSpec.ofChange Rows.bansUntilSpec).preRow enc Try.prog Try.f4 Rows.bansUntilRow.domain false Rows.bansUntilRow.laid) (((OpenSpec.ofChange Rows.bansUntilSpec).at F).post enc Try.prog Try.f4 false true false false) := by
  refine returnsInHanded_of_row (C := Try.checked) (s := OpenSpec.ofChange Rows.bansUntilSpec) own started (by kernel_rfl) Try.func4
    (witness_laid (enc := enc) (C := Try.checked) (s := OpenSpec.ofChange Rows.bansUntilSpec) (laid := Rows.bansUntilRow.laid) #[.slice none 0 0, .agg #[.bool false, .int .u64 0, .int .u64 0], .int .i64 0] (World.shaped_of_ZipB (by kernel_rfl) (by kernel_rfl)) (by kernel_rfl)
      (OpenSpec.preRow_of_cond 8 (x := ([.nil, .agg [.lit (.bool false), .lit (.int .u64 0), .lit (.int .u64 0)], .lit (.int .i64 0)], [], [])) (by kernel_rfl) (by kernel_rfl) (fun k hk => by cases hk) (by kernel_rfl)
        (by rw [MakeChecks.laidMetH_plain _ _ _ (by kernel_rfl)]; exact laidMet_laidAll _ (by kernel_rfl) (by kernel_rfl)))) ?_
  intro W base args ds gs before hval hW _ hcond _ _ hsh _
  exact contract H enc W base args ds gs before hval hW hsh
theorem over : Rows.bansUntilRow.holds Try.pinned (OpenSpec.ofChange Rows.bansUntilSpec) :=
  OpenClaim.holds_of_cond 4 Try.f4 rfl rfl rfl rfl rfl rfl rfl ⟨rfl, rfl, rfl, rfl, rfl⟩ rfl rfl rfl rfl rfl (by kernel_rfl) Try.func4 (by kernel_rfl)
    (of_decide_eq_true (by kernel_rfl)) (by unfold Func.isWrapper; first | (rw [if_pos (by decide +kernel)]; kernel_rfl) | (rw [if_neg (by decide +kernel)]; exact ⟨rfl, rfl⟩))
    (fun os started H enc _ F => by rw [OpenClaim.pre_eq_preRow]; exact lifted os started H enc F)
/-- ████ THE STATEMENT ████ -/
theorem proved : Rows.BansUntilSaid := over
end bansUntil
end Go.Proofs.Ytcjdfgpkcafpdaa
