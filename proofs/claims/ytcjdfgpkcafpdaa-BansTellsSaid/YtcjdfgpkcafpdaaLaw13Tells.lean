/- The first statement of layer 13, proved: what becomes of any list of bans, whatever is added, dropped, or swept; for all lists, bans and numbers. -/
import Derived.Test.YtcjdfgpkcafpdaaLaw13
namespace Go.Proofs.Ytcjdfgpkcafpdaa
set_option maxRecDepth 100000
open Go.ChangeShapes Go.WideShapes Go.ChangeAt Go.RowKit
open Dec Words V4 V6 Ad Ci Ba
set_option linter.unusedVariables false
set_option maxHeartbeats 8000000 in
theorem bansTells_walk (w : World) (v : Value) (l : List Ban) (h : Bans w v l) (hok : ∀ x ∈ l, x.ok) (b : Ban) (hbo : b.ok) (most : Int) (hn : -9223372036854775808 ≤ most ∧ most ≤ 9223372036854775807) :
    Calls Try.prog 3 #[v, .agg #[.bool b.n.a.v6, .int .u64 b.n.a.hi, .int .u64 b.n.a.lo, .int .i64 b.n.n, .int .i64 b.t], .int .i64 most] w fun e w' => e = .returned (.bool true) ∧ Below w.heap.size w w' := by
  have LOW : Below w.heap.size w (w.alloc (.cells #[.bool b.n.a.v6, .int .u64 b.n.a.hi, .int .u64 b.n.a.lo, .int .i64 b.n.n, .int .i64 b.t] 29)) := (Below.refl _ _).alloc (Nat.le_refl _) _
  have HV := Lib.hid h
  have AW := Lib.hid (fun W => awake13_any W)
  obtain ⟨A, c, rfl, -, -, -⟩ := h
  have k0 : (w.alloc (.cells #[.bool b.n.a.v6, .int .u64 b.n.a.hi, .int .u64 b.n.a.lo, .int .i64 b.n.n, .int .i64 b.t] 29)).cell? ⟨w.heap.size, 0, none⟩ = some (.bool b.n.a.v6) := cell_at _ _ _ 0 _ rfl
  have k1 : (w.alloc (.cells #[.bool b.n.a.v6, .int .u64 b.n.a.hi, .int .u64 b.n.a.lo, .int .i64 b.n.n, .int .i64 b.t] 29)).cell? ⟨w.heap.size, 1, none⟩ = some (.int .u64 b.n.a.hi) := cell_at _ _ _ 1 _ rfl
  have k2 : (w.alloc (.cells #[.bool b.n.a.v6, .int .u64 b.n.a.hi, .int .u64 b.n.a.lo, .int .i64 b.n.n, .int .i64 b.t] 29)).cell? ⟨w.heap.size, 2, none⟩ = some (.int .u64 b.n.a.lo) := cell_at _ _ _ 2 _ rfl
  have k3 : (w.alloc (.cells #[.bool b.n.a.v6, .int .u64 b.n.a.hi, .int .u64 b.n.a.lo, .int .i64 b.n.n, .int .i64 b.t] 29)).cell? ⟨w.heap.size, 3, none⟩ = some (.int .i64 b.n.n) := cell_at _ _ _ 3 _ rfl
  have k4 : (w.alloc (.cells #[.bool b.n.a.v6, .int .u64 b.n.a.hi, .int .u64 b.n.a.lo, .int .i64 b.n.n, .int .i64 b.t] 29)).cell? ⟨w.heap.size, 4, none⟩ = some (.int .i64 b.t) := cell_at _ _ _ 4 _ rfl
  by_cases hl : 60 < l.length
  · have hd : (60 : Int) < (l.length : Int) := by omega
    clear k0 k1 k2 k3 k4
    go_enter Try.func3, Try.ntmps3
    go_wp2_with fail
    refine (AW.out _).mono ?_
    rintro e w1 ⟨rfl, hb⟩
    go_wp2_with fail
    go_ret
    exact ⟨rfl, low_trans LOW hb⟩
  · have hd : ¬ (60 : Int) < (l.length : Int) := by omega
    have K1 := Lib.hid (fun W h => add_any (.slice A l.length c) l b most W h (by omega) hok hbo)
    have K2 := Lib.hid (fun W h => radd_any (.slice A l.length c) l b most W h (by omega) hok hbo)
    have K3 := Lib.hid (fun W h => drop_any (.slice A l.length c) l b.n W h (by omega) hok)
    have K4 := Lib.hid (fun W h => rdrop_any (.slice A l.length c) l b.n W h (by omega))
    have K5 := Lib.hid (fun W h => sweep_any (.slice A l.length c) l most W h (by omega) hok)
    have K6 := Lib.hid (fun W h => rsweep_any (.slice A l.length c) l most W h (by omega))
    have K7 := Lib.hid (fun W h => right_any (.slice A l.length c) l W h (by omega) hok)
    have K8 := Lib.hid (fun W h => rright_any (.slice A l.length c) l W h (by omega) hok)
    have g1 := addL_len l b most
    have g2 := dropL_len l b.n
    have g3 := sweep_le l most
    obtain ⟨x, q, hxq⟩ : ∃ x q, addL l b most = (x, q) := ⟨_, _, rfl⟩
    obtain ⟨y, r, hyr⟩ : ∃ y r, dropL l b.n = (y, r) := ⟨_, _, rfl⟩
    rw [hxq] at K1 K2 g1
    rw [hyr] at K3 K4 g2
    generalize hz : sweepL l most = z at K5 K6 g3
    generalize rightL l = t at K7 K8
    simp only at g1 g2
    clear hxq hyr hz
    have e1 : (t == t) = true := by simp
    have e2 : (q == q) = true := by simp
    have e3 : (r == r) = true := by simp
    have e4 : ((l.length : Int) - (z.length : Int) == (l.length : Int) - (z.length : Int)) = true := by simp
    go_enter Try.func3, Try.ntmps3
    go_wp2_with fail
    refine (K1.out _ (HV.out.below LOW)).mono ?_
    rintro e w1 ⟨u1, rfl, hR1, hb1⟩
    have HR1 := Lib.hid hR1
    obtain ⟨A1, c1, rfl, -, -, -⟩ := hR1
    have q0 := cells_left hb1 k0
    have q1 := cells_left hb1 k1
    have q2 := cells_left hb1 k2
    have q3 := cells_left hb1 k3
    have q4 := cells_left hb1 k4
    clear k0 k1 k2 k3 k4
    have L1 := low_trans LOW hb1
    clear LOW hb1
    go_wp2_with fail
    refine (K2.out _ (HV.out.below L1)).mono ?_
    rintro e w2 ⟨u2, rfl, hR2, hb2⟩
    have HR2 := Lib.hid hR2
    obtain ⟨A2, c2, rfl, -, -, -⟩ := hR2
    have HR1' := Lib.hid (HR1.out.below hb2)
    have p0 := cells_left hb2 q0
    have p1 := cells_left hb2 q1
    have p2 := cells_left hb2 q2
    have p3 := cells_left hb2 q3
    have p4 := cells_left hb2 q4
    clear q0 q1 q2 q3 q4
    have L2 := low_trans L1 hb2
    clear L1 hb2 HR1
    go_wp2_with fail
    refine (K3.out _ (HV.out.below L2)).mono ?_
    rintro e w3 ⟨u3, rfl, hR3, hb3⟩
    have HR3 := Lib.hid hR3
    obtain ⟨A3, c3, rfl, -, -, -⟩ := hR3
    have H1 := Lib.hid (And.intro (HR1'.out.below hb3) (HR2.out.below hb3))
    have q0 := cells_left hb3 p0
    have q1 := cells_left hb3 p1
    have q2 := cells_left hb3 p2
    have q3 := cells_left hb3 p3
    have q4 := cells_left hb3 p4
    clear p0 p1 p2 p3 p4
    have L3 := low_trans L2 hb3
    clear L2 hb3 HR1' HR2
    go_wp2_with fail
    refine (K4.out _ (HV.out.below L3)).mono ?_
    rintro e w4 ⟨u4, rfl, hR4, hb4⟩
    have HR4 := Lib.hid hR4
    obtain ⟨A4, c4, rfl, -, -, -⟩ := hR4
    have H2 := Lib.hid (And.intro (And.intro (H1.out.1.below hb4) (H1.out.2.below hb4)) (And.intro (HR3.out.below hb4) HR4.out))
    have L4 := low_trans L3 hb4
    clear L3 hb4 H1 HR3 HR4 q0 q1 q2 q3 q4
    go_wp2_with fail
    refine (K5.out _ (HV.out.below L4)).mono ?_
    rintro e w5 ⟨u5, rfl, hR5, hb5⟩
    have HR5 := Lib.hid hR5
    obtain ⟨A5, c5, rfl, -, -, -⟩ := hR5
    have H3 := Lib.hid (And.intro (And.intro (H2.out.1.1.below hb5) (H2.out.1.2.below hb5)) (And.intro (H2.out.2.1.below hb5) (H2.out.2.2.below hb5)))
    have L5 := low_trans L4 hb5
    clear L4 hb5 H2
    go_wp2_with fail
    refine (K6.out _ (HV.out.below L5)).mono ?_
    rintro e w6 ⟨u6, rfl, hR6, hb6⟩
    have HR6 := Lib.hid hR6
    obtain ⟨A6, c6, rfl, -, -, -⟩ := hR6
    have L6 := low_trans L5 hb6
    have HX := Lib.hid (fun W (hW : Below w6.heap.size w6 W) => same_bans (.slice A1 x.length c1) (.slice A2 x.length c2) x W ((H3.out.1.1.below hb6).below hW) ((H3.out.1.2.below hb6).below hW) (by omega))
    have HY := Lib.hid (fun W (hW : Below w6.heap.size w6 W) => same_bans (.slice A3 y.length c3) (.slice A4 y.length c4) y W ((H3.out.2.1.below hb6).below hW) ((H3.out.2.2.below hb6).below hW) (by omega))
    have HZ := Lib.hid (fun W (hW : Below w6.heap.size w6 W) => same_bans (.slice A5 z.length c5) (.slice A6 z.length c6) z W ((HR5.out.below hb6).below hW) (HR6.out.below hW) (by omega))
    clear L5 hb6 H3 HR5 HR6
    go_wp2_with fail
    refine (K7.out _ (HV.out.below L6)).mono ?_
    rintro e w7 ⟨rfl, hb7⟩
    go_wp2_with fail
    refine (K8.out _ (HV.out.below (low_trans L6 hb7))).mono ?_
    rintro e w8 ⟨rfl, hb8⟩
    have M8 := low_trans hb7 hb8
    clear hb7 hb8
    go_wp2_with fail
    refine (HX.out _ M8).mono ?_
    rintro e w9 ⟨rfl, hb9⟩
    have M9 := low_trans M8 hb9
    clear M8 hb9
    go_wp2_with fail
    refine (HY.out _ M9).mono ?_
    rintro e w10 ⟨rfl, hb10⟩
    have M10 := low_trans M9 hb10
    clear M9 hb10
    go_wp2_with fail
    refine (HZ.out _ M10).mono ?_
    rintro e w11 ⟨rfl, hb11⟩
    have M11 := low_trans M10 hb11
    clear M10 hb11
    go_wp2_with fail
    refine (AW.out _).mono ?_
    rintro e w12 ⟨rfl, hb12⟩
    go_wp2_with fail
    go_ret
    exact ⟨rfl, low_trans L6 (low_trans M11 hb12)⟩
namespace bansTells
theorem contract (H : Type) (enc : TypeId × Value → H) (W : World) (base : Nat) (args : Array Value) (ds gs : List (DataW H)) (before : List MemPlace)
    (hval0 : ∀ (j : Nat) t v, Try.f3.params[j]? = some t → args[j]? = some v → Value.okWide Try.prog W .any base t v)
    (hW : DataW.Whole enc Try.prog Try.f3.params.toList Rows.bansTellsSpec.vars false W args.toList ds gs before) (hSh : W.ShapedOpen Try.prog) :
    Calls Try.prog 3 args W fun e W' => ∃ v, e = .returned v ∧ Rows.bansTellsSpec.post enc Try.prog Try.f3 false true false false W args v W' := by
  have hval : ∀ (j : Nat) t v, Try.f3.params[j]? = some t → args[j]? = some v → Value.okWide Try.prog W .any base t v := hval0
  have hW' := hW
  obtain ⟨p, q, hA0, hV, _, _, _⟩ := hW
  have hA : DataW.TrodAll enc Try.prog W 0 (fun _ => true) true Try.f3.params.toList args.toList ds p := hA0
  rw [Try.params3] at hA hval
  obtain ⟨v0, vs0, d0, ds0, p0, q0, hargs, rfl, rfl, h0, r0⟩ := trodAll_cons hA
  obtain ⟨v1, vs1, d1, ds1, p1, q1, rfl, rfl, rfl, h1, r1⟩ := trodAll_cons r0
  obtain ⟨v2, vs2, d2, ds2, p2, q2, rfl, rfl, rfl, h2, r2⟩ := trodAll_cons r1
  obtain ⟨rfl, rfl, rfl⟩ := trodAll_nil r2
  obtain rfl : args = #[v0, v1, v2] := by cases args; simp_all
  obtain ⟨rfl, rfl⟩ := trodVars_none hV
  obtain ⟨l0, t0, n0, s0⟩ := open_bans (hval 0 22 v0 rfl rfl) h0
  obtain ⟨a1, z1, rfl⟩ := open_ban (hval 1 29 v1 rfl rfl) h1
  obtain ⟨b2, rfl, rfl, rfl, w2⟩ := open_int Try.underlying3 (hval 2 3 v2 rfl rfl) h2
  clear hA0 hval0
  refine (bansTells_walk W v0 l0 t0 s0 a1 z1 b2 (wf64 w2)).mono fun e W' ⟨he, hg⟩ => ?_
  subst he
  exact ⟨_, rfl, post_law laidOut (by kernel_rfl) (by kernel_rfl) Try.underlying4 rfl hW' rfl rfl rfl hg⟩
set_option maxRecDepth 100000 in
theorem lifted (os : Os) (started : os.Started) (H : Type) (enc : TypeId × Value → H) (F : Stop.Interp) :
    ReturnsInHanded {} Try.checked os 3 .any ((OpenSpec.ofChange Rows.bansTellsSpec).preRow enc Try.prog Try.f3 Rows.bansTellsRow.domain false Rows.bansTellsRow.laid) (((OpenSpec.ofChange Rows.bansTellsSpec).at F).post enc Try.prog Try.f3 false true false false) := by
  refine returnsInHanded_of_row (C := Try.checked) (s := OpenSpec.ofChange Rows.bansTellsSpec) own started (by kernel_rfl) Try.func3
    (witness_laid (enc := enc) (C := Try.checked) (s := OpenSpec.ofChange Rows.bansTellsSpec) (laid := Rows.bansTellsRow.laid) #[.slice none 0 0, .agg #[.bool false, .int .u64 0, .int .u64 0, .int .i64 0, .int .i64 0], .int .i64 0] (World.shaped_of_ZipB (by kernel_rfl) (by kernel_rfl)) (by kernel_rfl)
      (OpenSpec.preRow_of_cond 8 (x := ([.nil, .agg [.agg [.agg [.lit (.bool false), .lit (.int .u64 0), .lit (.int .u64 0)], .lit (.int .i64 0)], .lit (.int .i64 0)], .lit (.int .i64 0)], [], [])) (by kernel_rfl) (by kernel_rfl) (fun k hk => by cases hk) (by kernel_rfl)
        (by rw [MakeChecks.laidMetH_plain _ _ _ (by kernel_rfl)]; exact laidMet_laidAll _ (by kernel_rfl) (by kernel_rfl)))) ?_
  intro W base args ds gs before hval hW _ hcond _ _ hsh _
  exact contract H enc W base args ds gs before hval hW hsh
theorem over : Rows.bansTellsRow.holds Try.pinned (OpenSpec.ofChange Rows.bansTellsSpec) :=
  OpenClaim.holds_of_cond 3 Try.f3 rfl rfl rfl rfl rfl rfl rfl ⟨rfl, rfl, rfl, rfl, rfl⟩ rfl rfl rfl rfl rfl (by kernel_rfl) Try.func3 (by kernel_rfl)
    (of_decide_eq_true (by kernel_rfl)) (by unfold Func.isWrapper; first | (rw [if_pos (by decide +kernel)]; kernel_rfl) | (rw [if_neg (by decide +kernel)]; exact ⟨rfl, rfl⟩))
    (fun os started H enc _ F => by rw [OpenClaim.pre_eq_preRow]; exact lifted os started H enc F)
/-- ████ THE STATEMENT ████ -/
theorem proved : Rows.BansTellsSaid := over
end bansTells
end Go.Proofs.Ytcjdfgpkcafpdaa
