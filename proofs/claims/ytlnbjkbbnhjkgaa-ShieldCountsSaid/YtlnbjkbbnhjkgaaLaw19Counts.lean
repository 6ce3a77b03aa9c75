/- The third statement of layer 19, proved: quotas protect no more than they come to, and leave all others; for all lists of peers, all quotas and all secrets. -/
import Derived.Test.YtlnbjkbbnhjkgaaLaw19
import Derived.Lib.MinMax
namespace Go.Proofs.Ytlnbjkbbnhjkgaa
set_option maxRecDepth 100000
open Go.ChangeShapes Go.WideShapes Go.ChangeAt Go.RowKit
open Dec Words V4 V6 Ad Ci En Sat Ha Pe Stb Gr Mi Ra Sh Go.Deep
set_option linter.unusedVariables false
abbrev C19 (w : World) (q : Qt) (w' : World) : Prop := w'.cell? ⟨w.heap.size, 0, none⟩ = some (.int .i64 q.g) ∧ w'.cell? ⟨w.heap.size, 1, none⟩ = some (.int .i64 q.p) ∧ w'.cell? ⟨w.heap.size, 2, none⟩ = some (.int .i64 q.w) ∧ w'.cell? ⟨w.heap.size, 3, none⟩ = some (.int .i64 q.t) ∧ Lows (w.alloc (.cells #[.int .i64 q.g, .int .i64 q.p, .int .i64 q.w, .int .i64 q.t] 24)) w'
set_option maxHeartbeats 24000000 in
theorem shieldCounts_walk (w : World) (v : Value) (l : List Pr) (h : Peers w v l) (hok : ∀ x ∈ l, x.ok) (q : Qt) (hq : q.ok) (s : Nat) (hs : s < 18446744073709551616) :
    Calls Try.prog 5 #[v, .agg #[.int .i64 q.g, .int .i64 q.p, .int .i64 q.w, .int .i64 q.t], .int .u64 (s : Nat)] w fun e w' => e = .returned (.bool true) ∧ Below w.heap.size w w' := by
  have PW := Lib.hid h
  have AW := Lib.hid (fun W => awake19_any W)
  obtain ⟨A, c, rfl, hc, _, hcell⟩ := h
  have HC := Lib.hid hcell
  have HOK := Lib.hid hok
  have HS := Lib.hid hs
  have OB : Hid (Blk (w.alloc (.cells #[.int .i64 q.g, .int .i64 q.p, .int .i64 q.w, .int .i64 q.t] 24)) w.heap.size 24 [.int .i64 q.g, .int .i64 q.p, .int .i64 q.w, .int .i64 q.t]) := Lib.hid (Blk.new w #[.int .i64 q.g, .int .i64 q.p, .int .i64 q.w, .int .i64 q.t] 24)
  have L0 : Hid (Lows w (w.alloc (.cells #[.int .i64 q.g, .int .i64 q.p, .int .i64 q.w, .int .i64 q.t] 24))) := Lib.hid (Lows.alloc (Lows.self w) _)
  clear hcell hok hs hq
  by_cases h30 : 30 < l.length
  · have h30z : (30 : Int) < (l.length : Int) := by omega
    go_enter Try.func5, Try.ntmps5
    go_wp2_with fail
    refine (AW.out _).mono ?_; rintro e w1 ⟨rfl, hb1⟩
    go_wp2_with fail
    go_ret
    exact ⟨rfl, low_trans L0.out hb1⟩
  · have h30z : ¬ (30 : Int) < (l.length : Int) := by omega
    have hl1 : l.length ≤ 1000000 := by omega
    have HCN := left_counts (l := l) (q := q) (s := s) (by omega)
    obtain ⟨r, hr⟩ : ∃ r, r = (leftR l q s).length := ⟨_, rfl⟩
    obtain ⟨x1, hx1⟩ : ∃ x, x = fewR q.g := ⟨_, rfl⟩
    obtain ⟨x2, hx2⟩ : ∃ x, x = fewR q.p := ⟨_, rfl⟩
    obtain ⟨x3, hx3⟩ : ∃ x, x = fewR q.w := ⟨_, rfl⟩
    obtain ⟨x4, hx4⟩ : ∃ x, x = fewR q.t := ⟨_, rfl⟩
    have FW1 : Hid (∀ W, Calls Try.prog 15 #[.int .i64 q.g] W fun e w' => e = .returned (.int .i64 x1) ∧ W = w') := Lib.hid fun W => by rw [hx1]; exact few_any q.g W
    have b1 : 0 ≤ x1 ∧ x1 ≤ 64 := by have := few_at q.g; omega
    have FW2 : Hid (∀ W, Calls Try.prog 15 #[.int .i64 q.p] W fun e w' => e = .returned (.int .i64 x2) ∧ W = w') := Lib.hid fun W => by rw [hx2]; exact few_any q.p W
    have b2 : 0 ≤ x2 ∧ x2 ≤ 64 := by have := few_at q.p; omega
    have FW3 : Hid (∀ W, Calls Try.prog 15 #[.int .i64 q.w] W fun e w' => e = .returned (.int .i64 x3) ∧ W = w') := Lib.hid fun W => by rw [hx3]; exact few_any q.w W
    have b3 : 0 ≤ x3 ∧ x3 ≤ 64 := by have := few_at q.w; omega
    have FW4 : Hid (∀ W, Calls Try.prog 15 #[.int .i64 q.t] W fun e w' => e = .returned (.int .i64 x4) ∧ W = w') := Lib.hid fun W => by rw [hx4]; exact few_any q.t W
    have b4 : 0 ≤ x4 ∧ x4 ≤ 64 := by have := few_at q.t; omega
    rw [← hr, ← hx1, ← hx2, ← hx3, ← hx4] at HCN
    have HR := Lib.hid hr
    obtain ⟨a2, ha2⟩ : ∃ a, a = x1 + x2 := ⟨_, rfl⟩
    obtain ⟨a3, ha3⟩ : ∃ a, a = a2 + x3 := ⟨_, rfl⟩
    obtain ⟨a4, ha4⟩ : ∃ a, a = a3 + x4 := ⟨_, rfl⟩
    obtain ⟨d4, hd4⟩ : ∃ a, a = x1 + x4 := ⟨_, rfl⟩
    obtain ⟨d, hd⟩ : ∃ a, a = (l.length : Int) - (r : Int) := ⟨_, rfl⟩
    have ba2 : 0 ≤ a2 ∧ a2 ≤ 128 := by omega
    have ba3 : 0 ≤ a3 ∧ a3 ≤ 192 := by omega
    have ba4 : 0 ≤ a4 ∧ a4 ≤ 256 := by omega
    have bd4 : 0 ≤ d4 ∧ d4 ≤ 128 := by omega
    have bd : -1000000 ≤ d ∧ d ≤ 1000000 := by omega
    have t1 : d ≤ a4 := by omega
    have t2 : (r : Int) ≤ (l.length : Int) := by omega
    have t3 : min (l.length : Int) d4 ≤ d := by omega
    have t1d : decide (d ≤ a4) = true := decide_eq_true t1
    have t2d : decide ((r : Int) ≤ (l.length : Int)) = true := decide_eq_true t2
    have t3d : decide (min (l.length : Int) d4 ≤ d) = true := decide_eq_true t3
    have t4d : ((l.length : Int) == (l.length : Int)) = true := by simp
    have w0 : IntKind.i64.wrap (x1 + x2) = a2 := by rw [IntKind.wrap_i64]; omega
    have v0 : wrap64 (x1 + x2) = a2 := by unfold wrap64; omega
    have w1 : IntKind.i64.wrap (a2 + x3) = a3 := by rw [IntKind.wrap_i64]; omega
    have v1 : wrap64 (a2 + x3) = a3 := by unfold wrap64; omega
    have w2 : IntKind.i64.wrap (a3 + x4) = a4 := by rw [IntKind.wrap_i64]; omega
    have v2 : wrap64 (a3 + x4) = a4 := by unfold wrap64; omega
    have w3 : IntKind.i64.wrap (x1 + x4) = d4 := by rw [IntKind.wrap_i64]; omega
    have v3 : wrap64 (x1 + x4) = d4 := by unfold wrap64; omega
    have w4 : IntKind.i64.wrap ((l.length : Int) - (r : Int)) = d := by rw [IntKind.wrap_i64]; omega
    have v4 : wrap64 ((l.length : Int) - (r : Int)) = d := by unfold wrap64; omega
    clear hx1 hx2 hx3 hx4 ha2 ha3 ha4 hd4 hd HCN hr
    have hne : Nonempty (Cls (Lows (w.alloc (.cells #[.int .i64 q.g, .int .i64 q.p, .int .i64 q.w, .int .i64 q.t] 24)))) := ⟨⟨_, Lows.self _⟩⟩
    have g0 : ∀ nq : Cls (Lows (w.alloc (.cells #[.int .i64 q.g, .int .i64 q.p, .int .i64 q.w, .int .i64 q.t] 24))), nq.w.cell? ⟨w.heap.size, 0, none⟩ = some (.int .i64 q.g) := fun nq => Blk.in OB (nq.h) rfl
    have g1 : ∀ nq : Cls (Lows (w.alloc (.cells #[.int .i64 q.g, .int .i64 q.p, .int .i64 q.w, .int .i64 q.t] 24))), nq.w.cell? ⟨w.heap.size, 1, none⟩ = some (.int .i64 q.p) := fun nq => Blk.in OB (nq.h) rfl
    have g2 : ∀ nq : Cls (Lows (w.alloc (.cells #[.int .i64 q.g, .int .i64 q.p, .int .i64 q.w, .int .i64 q.t] 24))), nq.w.cell? ⟨w.heap.size, 2, none⟩ = some (.int .i64 q.w) := fun nq => Blk.in OB (nq.h) rfl
    have g3 : ∀ nq : Cls (Lows (w.alloc (.cells #[.int .i64 q.g, .int .i64 q.p, .int .i64 q.w, .int .i64 q.t] 24))), nq.w.cell? ⟨w.heap.size, 3, none⟩ = some (.int .i64 q.t) := fun nq => Blk.in OB (nq.h) rfl
    go_enter Try.func5, Try.ntmps5
    go_wp2_with fail
    refine Cls.region (Lows (w.alloc (.cells #[.int .i64 q.g, .int .i64 q.p, .int .i64 q.w, .int .i64 q.t] 24))) (by kernel_rfl) (by kernel_rfl) (low_drewN (Below.refl _ _) 1) ?_
    (try dsimp only [List.append])
    repeat (go_big_quiet_step (first | fail | (with_reducible exact Cls.call ((lows_same FW1).out _ (Cls.h _))) | (with_reducible exact Cls.call ((lows_same FW2).out _ (Cls.h _))) | (with_reducible exact Cls.call ((lows_same FW3).out _ (Cls.h _))) | (with_reducible exact Cls.call ((lows_same FW4).out _ (Cls.h _)))))
    refine wpQuiet_nil ?_
    intro n9
    have hk9 := n9.h
    generalize n9.w = w9 at hk9 ⊢
    clear hne n9 g0 g1 g2 g3
    have HL := Lib.hid hk9
    have bc0 := Blk.in OB hk9 (j := 0) rfl
    have bc1 := Blk.in OB hk9 (j := 1) rfl
    have bc2 := Blk.in OB hk9 (j := 2) rfl
    have bc3 := Blk.in OB hk9 (j := 3) rfl
    have KL := Lib.hid (left_any _ l q s w9 (PW.out.below (low_trans L0.out hk9)) HOK.out hl1 HS.out)
    clear hk9
    go_wp2_with fail
    refine KL.out.mono ?_; rintro e w1 ⟨u, rfl, hN, hb1⟩
    obtain ⟨A2, c2, rfl, hc2, _, _⟩ := hN
    rw [← HR.out]
    have L1 := Lib.hid (low_trans HL.out hb1)
    have IN : ∀ w', Lows (w.alloc (.cells #[.int .i64 q.g, .int .i64 q.p, .int .i64 q.w, .int .i64 q.t] 24)) w' → C19 w q w' := fun w' h => ⟨Blk.in OB h rfl, Blk.in OB h rfl, Blk.in OB h rfl, Blk.in OB h rfl, h⟩
    have KF1 : Hid (∀ W, C19 w q W → Calls Try.prog 15 #[.int .i64 q.g] W fun e w' => e = .returned (.int .i64 x1) ∧ C19 w q w') := Lib.hid fun W h => (FW1.out W).mono fun e w' ⟨he, hb⟩ => ⟨he, hb ▸ h⟩
    have KF4 : Hid (∀ W, C19 w q W → Calls Try.prog 15 #[.int .i64 q.t] W fun e w' => e = .returned (.int .i64 x4) ∧ C19 w q w') := Lib.hid fun W h => (FW4.out W).mono fun e w' ⟨he, hb⟩ => ⟨he, hb ▸ h⟩
    have KL0 : Hid (∀ W, C19 w q W → Calls Try.prog 13 #[.slice A l.length c, .agg #[.int .i64 0, .int .i64 0, .int .i64 0, .int .i64 0], .int .u64 (s : Nat)] W fun e w' => ∃ A3 c3, e = .returned (.slice A3 l.length c3) ∧ C19 w q w') := Lib.hid fun W h => (left_any _ l ⟨0, 0, 0, 0⟩ s W (PW.out.below (low_trans L0.out h.2.2.2.2)) HOK.out hl1 HS.out).mono fun e w' ⟨x, he, hx, hb⟩ => by
      obtain ⟨A3, c3, e3, _⟩ := hx
      subst e3
      rw [left_none] at he
      exact ⟨A3, c3, he, IN _ (low_trans h.2.2.2.2 hb)⟩
    have KW : Hid (∀ W, C19 w q W → Calls Try.prog 6 #[] W fun e w' => e = .returned (.bool true) ∧ C19 w q w') := Lib.hid fun W h => (AW.out W).mono fun e w' ⟨he, hb⟩ => ⟨he, IN _ (low_trans h.2.2.2.2 hb)⟩
    have hk0 : C19 w q w1 := IN _ L1.out
    have JD : Hid (∀ W, C19 w q W → C19 w q W.drew) := Lib.hid fun W h => IN _ (low_drewN h.2.2.2.2 1)
    clear IN hb1 hc2 KL bc0 bc1 bc2 bc3
    obtain ⟨k0, k1, k2, k3, hsk⟩ := id hk0
    go_wp2_with fail
    go_region_held3 (fun w' => w'.cell? ⟨w.heap.size, 0, none⟩ = some (.int .i64 q.g) ∧ w'.cell? ⟨w.heap.size, 1, none⟩ = some (.int .i64 q.p) ∧ w'.cell? ⟨w.heap.size, 2, none⟩ = some (.int .i64 q.w) ∧ w'.cell? ⟨w.heap.size, 3, none⟩ = some (.int .i64 q.t) ∧ Lows (w.alloc (.cells #[.int .i64 q.g, .int .i64 q.p, .int .i64 q.w, .int .i64 q.t] 24)) w')
      (first | (with_reducible assumption) | (with_reducible exact JD.out _ (by with_reducible assumption)))
      (first
        | (go_at_call 15; first
          | ((with_reducible refine (KF1.out _ (by with_reducible assumption)).mono ?_); rintro e w9 ⟨rfl, hkw⟩)
          | ((with_reducible refine (KF4.out _ (by with_reducible assumption)).mono ?_); rintro e w9 ⟨rfl, hkw⟩))
        | (go_at_call 13; (with_reducible refine (KL0.out _ (by with_reducible assumption)).mono ?_); rintro e w9 ⟨A3, c3, rfl, hkw⟩)
        | (go_at_call 6; (with_reducible refine (KW.out _ (by with_reducible assumption)).mono ?_); rintro e w9 ⟨rfl, hkw⟩))
    all_goals
      have hkf := ‹C19 w q _›
      go_wp2_with fail
      go_ret
      exact ⟨rfl, low_trans L0.out hkf.2.2.2.2⟩
namespace shieldCounts
theorem contract (H : Type) (enc : TypeId × Value → H) (W : World) (base : Nat) (args : Array Value) (ds gs : List (DataW H)) (before : List MemPlace)
    (hval0 : ∀ (j : Nat) t v, Try.f5.params[j]? = some t → args[j]? = some v → Value.okWide Try.prog W .any base t v)
    (hW : DataW.Whole enc Try.prog Try.f5.params.toList Rows.shieldCountsSpec.vars false W args.toList ds gs before) (hSh : W.ShapedOpen Try.prog) :
    Calls Try.prog 5 args W fun e W' => ∃ v, e = .returned v ∧ Rows.shieldCountsSpec.post enc Try.prog Try.f5 false true false false W args v W' := by
  have hval : ∀ (j : Nat) t v, Try.f5.params[j]? = some t → args[j]? = some v → Value.okWide Try.prog W .any base t v := hval0
  have hW' := hW
  obtain ⟨p, q, hA0, hV, _, _, _⟩ := hW
  have hA : DataW.TrodAll enc Try.prog W 0 (fun _ => true) true Try.f5.params.toList args.toList ds p := hA0
  rw [Try.params5] at hA hval
  obtain ⟨v0, vs0, d0, ds0, p0, q0, hargs, rfl, rfl, h0, r0⟩ := trodAll_cons hA
  obtain ⟨v1, vs1, d1, ds1, p1, q1, rfl, rfl, rfl, h1, r1⟩ := trodAll_cons r0
  obtain ⟨v2, vs2, d2, ds2, p2, q2, rfl, rfl, rfl, h2, r2⟩ := trodAll_cons r1
  obtain ⟨rfl, rfl, rfl⟩ := trodAll_nil r2
  obtain rfl : args = #[v0, v1, v2] := by cases args; simp_all
  obtain ⟨rfl, rfl⟩ := trodVars_none hV
  obtain ⟨l0, t0, n0, s0⟩ := open_peers (hval 0 22 v0 rfl rfl) h0
  obtain ⟨a1, z1, rfl⟩ := open_quota (hval 1 24 v1 rfl rfl) h1
  obtain ⟨b2, rfl, rfl, rfl, w2⟩ := open_int Try.underlying25 (hval 2 25 v2 rfl rfl) h2
  obtain ⟨a2, rfl, z2⟩ := nat_of_u64 w2
  clear hA0 hval0
  refine (shieldCounts_walk W v0 l0 t0 s0 a1 z1 a2 z2).mono fun e W' ⟨he, hg⟩ => ?_
  subst he
  exact ⟨_, rfl, post_law laidOut (by kernel_rfl) (by kernel_rfl) Try.underlying4 rfl hW' rfl rfl rfl hg⟩
set_option maxRecDepth 100000 in
theorem lifted (os : Os) (started : os.Started) (H : Type) (enc : TypeId × Value → H) (F : Stop.Interp) :
    ReturnsInHanded {} Try.checked os 5 .any ((OpenSpec.ofChange Rows.shieldCountsSpec).preRow enc Try.prog Try.f5 Rows.shieldCountsRow.domain false Rows.shieldCountsRow.laid) (((OpenSpec.ofChange Rows.shieldCountsSpec).at F).post enc Try.prog Try.f5 false true false false) := by
  refine returnsInHanded_of_row (C := Try.checked) (s := OpenSpec.ofChange Rows.shieldCountsSpec) own started (by kernel_rfl) Try.func5
    (witness_laid (enc := enc) (C := Try.checked) (s := OpenSpec.ofChange Rows.shieldCountsSpec) (laid := Rows.shieldCountsRow.laid) #[.slice none 0 0, .agg #[.int .i64 0, .int .i64 0, .int .i64 0, .int .i64 0], .int .u64 0] (World.shaped_of_ZipB (by kernel_rfl) (by kernel_rfl)) (by kernel_rfl)
      (OpenSpec.preRow_of_cond 8 (x := ([.nil, .agg [.lit (.int .i64 0), .lit (.int .i64 0), .lit (.int .i64 0), .lit (.int .i64 0)], .lit (.int .u64 0)], [], [])) (by kernel_rfl) (by kernel_rfl) (fun k hk => by cases hk) (by kernel_rfl)
        (by rw [MakeChecks.laidMetH_plain _ _ _ (by kernel_rfl)]; exact laidMet_laidAll _ (by kernel_rfl) (by kernel_rfl)))) ?_
  intro W base args ds gs before hval hW _ hcond _ _ hsh _
  exact contract H enc W base args ds gs before hval hW hsh
theorem over : Rows.shieldCountsRow.holds Try.pinned (OpenSpec.ofChange Rows.shieldCountsSpec) :=
  OpenClaim.holds_of_cond 5 Try.f5 rfl rfl rfl rfl rfl rfl rfl ⟨rfl, rfl, rfl, rfl, rfl⟩ rfl rfl rfl rfl rfl (by kernel_rfl) Try.func5 (by kernel_rfl)
    (of_decide_eq_true (by kernel_rfl)) (by unfold Func.isWrapper; first | (rw [if_pos (by decide +kernel)]; kernel_rfl) | (rw [if_neg (by decide +kernel)]; exact ⟨rfl, rfl⟩))
    (fun os started H enc _ F => by rw [OpenClaim.pre_eq_preRow]; exact lifted os started H enc F)
/-- ████ THE STATEMENT ████ -/
theorem proved : Rows.ShieldCountsSaid := over
end shieldCounts
end Go.Proofs.Ytlnbjkbbnhjkgaa
