/- The first statement of layer 19, proved: who is protected, who is left, and who is inside, of any peers, by any quotas, are as the document has them; for all lists of peers, all quotas and all secrets. -/
import Derived.Test.YtlnbjkbbnhjkgaaLaw19
namespace Go.Proofs.Ytlnbjkbbnhjkgaa
set_option maxRecDepth 100000
open Go.ChangeShapes Go.WideShapes Go.ChangeAt Go.RowKit
open Dec Words V4 V6 Ad Ci En Sat Ha Pe Stb Gr Mi Ra Sh Go.Deep
set_option linter.unusedVariables false
abbrev T19 (w : World) (q : Qt) (w' : World) : Prop := w'.cell? ⟨w.heap.size, 0, none⟩ = some (.int .i64 q.g) ∧ w'.cell? ⟨w.heap.size, 1, none⟩ = some (.int .i64 q.p) ∧ w'.cell? ⟨w.heap.size, 2, none⟩ = some (.int .i64 q.w) ∧ w'.cell? ⟨w.heap.size, 3, none⟩ = some (.int .i64 q.t) ∧ Lows (w.alloc (.cells #[.int .i64 q.g, .int .i64 q.p, .int .i64 q.w, .int .i64 q.t] 24)) w'
set_option maxHeartbeats 24000000 in
theorem shieldTells_walk (w : World) (v : Value) (l : List Pr) (h : Peers w v l) (hok : ∀ x ∈ l, x.ok) (q : Qt) (hq : q.ok) (s : Nat) (hs : s < 18446744073709551616) :
    Calls Try.prog 3 #[v, .agg #[.int .i64 q.g, .int .i64 q.p, .int .i64 q.w, .int .i64 q.t], .int .u64 (s : Nat)] w fun e w' => e = .returned (.bool true) ∧ Below w.heap.size w w' := by
  have PW := Lib.hid h
  have AW := Lib.hid (fun W => awake19_any W)
  obtain ⟨A, c, rfl, hc, _, hcell⟩ := h
  have HC := Lib.hid hcell
  have HOK := Lib.hid hok
  have HS := Lib.hid hs
  have OB : Hid (Blk (w.alloc (.cells #[.int .i64 q.g, .int .i64 q.p, .int .i64 q.w, .int .i64 q.t] 24)) w.heap.size 24 [.int .i64 q.g, .int .i64 q.p, .int .i64 q.w, .int .i64 q.t]) := Lib.hid (Blk.new w #[.int .i64 q.g, .int .i64 q.p, .int .i64 q.w, .int .i64 q.t] 24)
  have L0 : Hid (Lows w (w.alloc (.cells #[.int .i64 q.g, .int .i64 q.p, .int .i64 q.w, .int .i64 q.t] 24))) := Lib.hid (Lows.alloc (Lows.self w) _)
  clear hcell hok hs hq
  by_cases h30 : 30 < l.length
  · have h30z : (30 : Int) < (l.length : Int) := by omega
    go_enter Try.func3, Try.ntmps3
    go_wp2_with fail
    refine (AW.out _).mono ?_; rintro e w1 ⟨rfl, hb1⟩
    go_wp2_with fail
    go_ret
    exact ⟨rfl, low_trans L0.out hb1⟩
  · have h30z : ¬ (30 : Int) < (l.length : Int) := by omega
    have hl1 : l.length ≤ 1000000 := by omega
    go_enter Try.func3, Try.ntmps3
    go_wp2_with fail
    go_loopw [7] (fun vi wr => ∃ i : Nat, vi = .int .i64 i ∧ i ≤ l.length ∧ Hid (Lows (w.alloc (.cells #[.int .i64 q.g, .int .i64 q.p, .int .i64 q.w, .int .i64 q.t] 24)) wr)) (fun vi _ => l.length - (intOf vi).toNat)
    case atStart => exact ⟨0, rfl, Nat.zero_le _, Lib.hid (Lows.self _)⟩
    case round =>
      obtain ⟨i, rfl, hi, HL⟩ := hrel
      by_cases hli : i < l.length
      · have hliz : (i : Int) < (l.length : Int) := by omega
        have hne : Nonempty (Cls (Lows wr)) := ⟨⟨_, Lows.self _⟩⟩
        have g0 : ∀ nq : Cls (Lows wr), nq.w.cell? ⟨w.heap.size, 0, none⟩ = some (.int .i64 q.g) := fun nq => Blk.in OB (low_trans HL.out nq.h) rfl
        have g1 : ∀ nq : Cls (Lows wr), nq.w.cell? ⟨w.heap.size, 1, none⟩ = some (.int .i64 q.p) := fun nq => Blk.in OB (low_trans HL.out nq.h) rfl
        have g2 : ∀ nq : Cls (Lows wr), nq.w.cell? ⟨w.heap.size, 2, none⟩ = some (.int .i64 q.w) := fun nq => Blk.in OB (low_trans HL.out nq.h) rfl
        have g3 : ∀ nq : Cls (Lows wr), nq.w.cell? ⟨w.heap.size, 3, none⟩ = some (.int .i64 q.t) := fun nq => Blk.in OB (low_trans HL.out nq.h) rfl
        have KI0 : Hid (∀ W, Lows wr W → Calls Try.prog 7 #[.slice A l.length c, .int .i64 i, .agg #[.int .i64 q.g, .int .i64 q.p, .int .i64 q.w, .int .i64 q.t], .int .u64 (s : Nat)] W fun e w' => e = .returned (.bool (insideR l i q s)) ∧ Lows wr w') := Lib.hid fun W h => (inside_any _ l i q s W (PW.out.below (low_trans L0.out (low_trans HL.out h))) HOK.out hl1 HS.out).mono fun e w' ⟨he, hb⟩ => ⟨he, low_trans h hb⟩
        have KJ0 : Hid (∀ W, Lows wr W → Calls Try.prog 8 #[.slice A l.length c, .int .i64 i, .agg #[.int .i64 q.g, .int .i64 q.p, .int .i64 q.w, .int .i64 q.t], .int .u64 (s : Nat)] W fun e w' => e = .returned (.bool (insideR l i q s)) ∧ Lows wr w') := Lib.hid fun W h => (rinside_any _ l i q s W (PW.out.below (low_trans L0.out (low_trans HL.out h))) HOK.out hl1 HS.out).mono fun e w' ⟨he, hb⟩ => ⟨he, low_trans h hb⟩
        have KI := KI0
        have KJ := KJ0
        clear KI0 KJ0
        generalize insideR l i q s = II at KI KJ
        have z1 : (II != II) = false := by simp
        have z2 : (!(II == II)) = false := by simp
        have z3 : (II == II) = true := by simp
        go_wp2_with fail
        refine Cls.region (Lows wr) (by kernel_rfl) (by kernel_rfl) (low_drewN (Below.refl _ _) 1) ?_
        (try dsimp only [List.append])
        repeat (go_big_quiet_step (first | fail | (with_reducible exact Cls.call ((KI).out _ (Cls.h _))) | (with_reducible exact Cls.call ((KJ).out _ (Cls.h _)))))
        refine wpQuiet_nil ?_
        intro n9
        have hk9 := n9.h
        generalize n9.w = w9 at hk9 ⊢
        clear hne n9 g0 g1 g2 g3 KI KJ
        go_wp2_with fail
        go_roundw
        case rel => exact ⟨i + 1, by go_num, by omega, Lib.hid (low_trans HL.out hk9)⟩
        case measure => simp [intOf]; omega
      · have hliz : ¬ (i : Int) < (l.length : Int) := by omega
        have IN : ∀ w', Lows (w.alloc (.cells #[.int .i64 q.g, .int .i64 q.p, .int .i64 q.w, .int .i64 q.t] 24)) w' → T19 w q w' := fun w' h => ⟨Blk.in OB h rfl, Blk.in OB h rfl, Blk.in OB h rfl, Blk.in OB h rfl, h⟩
        have PN : ∀ W, Lows (w.alloc (.cells #[.int .i64 q.g, .int .i64 q.p, .int .i64 q.w, .int .i64 q.t] 24)) W → Peers W (.slice A l.length c) l := fun W h => PW.out.below (low_trans L0.out h)
        have KS1 : Hid (∀ W, T19 w q W → Calls Try.prog 10 #[.slice A l.length c, .agg #[.int .i64 q.g, .int .i64 q.p, .int .i64 q.w, .int .i64 q.t], .int .u64 (s : Nat)] W fun e w' => ∃ u, e = .returned u ∧ BoolsI w' u (ls l.length (savedR l q s 4)) ∧ Below W.heap.size W w' ∧ T19 w q w') := Lib.hid fun W h => (saved_any _ l q s W (PN W h.2.2.2.2) HOK.out hl1 HS.out).mono fun e w' ⟨u, he, hu, hb⟩ => ⟨u, he, hu, hb, IN _ (low_trans h.2.2.2.2 hb)⟩
        have KS2 : Hid (∀ W, T19 w q W → Calls Try.prog 11 #[.slice A l.length c, .agg #[.int .i64 q.g, .int .i64 q.p, .int .i64 q.w, .int .i64 q.t], .int .u64 (s : Nat)] W fun e w' => ∃ u, e = .returned u ∧ BoolsI w' u (ls l.length (savedR l q s 4)) ∧ Below W.heap.size W w' ∧ T19 w q w') := Lib.hid fun W h => (rsaved_any _ l q s W (PN W h.2.2.2.2) HOK.out hl1 HS.out).mono fun e w' ⟨u, he, hu, hb⟩ => ⟨u, he, hu, hb, IN _ (low_trans h.2.2.2.2 hb)⟩
        have KL1 : Hid (∀ W, T19 w q W → Calls Try.prog 13 #[.slice A l.length c, .agg #[.int .i64 q.g, .int .i64 q.p, .int .i64 q.w, .int .i64 q.t], .int .u64 (s : Nat)] W fun e w' => ∃ u, e = .returned u ∧ NumsI w' u (leftR l q s) ∧ Below W.heap.size W w' ∧ T19 w q w') := Lib.hid fun W h => (left_any _ l q s W (PN W h.2.2.2.2) HOK.out hl1 HS.out).mono fun e w' ⟨u, he, hu, hb⟩ => ⟨u, he, hu, hb, IN _ (low_trans h.2.2.2.2 hb)⟩
        have KL2 : Hid (∀ W, T19 w q W → Calls Try.prog 14 #[.slice A l.length c, .agg #[.int .i64 q.g, .int .i64 q.p, .int .i64 q.w, .int .i64 q.t], .int .u64 (s : Nat)] W fun e w' => ∃ u, e = .returned u ∧ NumsI w' u (leftR l q s) ∧ Below W.heap.size W w' ∧ T19 w q w') := Lib.hid fun W h => (rleft_any _ l q s W (PN W h.2.2.2.2) HOK.out hl1 HS.out).mono fun e w' ⟨u, he, hu, hb⟩ => ⟨u, he, hu, hb, IN _ (low_trans h.2.2.2.2 hb)⟩
        have KI1 : Hid (∀ W, T19 w q W → Calls Try.prog 7 #[.slice A l.length c, .int .i64 (-1), .agg #[.int .i64 q.g, .int .i64 q.p, .int .i64 q.w, .int .i64 q.t], .int .u64 (s : Nat)] W fun e w' => e = .returned (.bool false) ∧ T19 w q w') := Lib.hid fun W h => by
          have k := inside_any (.slice A l.length c) l (-1) q s W (PN W h.2.2.2.2) HOK.out hl1 HS.out
          rw [show insideR l (-1) q s = false from by unfold insideR; rw [decide_eq_false (by omega)]; rfl] at k
          exact k.mono fun e w' ⟨he, hb⟩ => ⟨he, IN _ (low_trans h.2.2.2.2 hb)⟩
        have KI2 : Hid (∀ W, T19 w q W → Calls Try.prog 7 #[.slice A l.length c, .int .i64 (l.length : Int), .agg #[.int .i64 q.g, .int .i64 q.p, .int .i64 q.w, .int .i64 q.t], .int .u64 (s : Nat)] W fun e w' => e = .returned (.bool false) ∧ T19 w q w') := Lib.hid fun W h => by
          have k := inside_any (.slice A l.length c) l (l.length : Int) q s W (PN W h.2.2.2.2) HOK.out hl1 HS.out
          rw [show insideR l (l.length : Int) q s = false from by unfold insideR; rw [decide_eq_false (by omega)]; rfl] at k
          exact k.mono fun e w' ⟨he, hb⟩ => ⟨he, IN _ (low_trans h.2.2.2.2 hb)⟩
        have hSL : (ls l.length (savedR l q s 4)).length ≤ 1000000 := by rw [ls_length]; exact hl1
        have hFL : (leftR l q s).length ≤ l.length := rest_le _ _
        have hFM : ∀ x ∈ leftR l q s, x ≤ 1000000 := fun x hx => by have := (rest_mem.1 hx).1; omega
        have KB : Hid (∀ W u1 u2, BoolsI W u1 (ls l.length (savedR l q s 4)) → BoolsI W u2 (ls l.length (savedR l q s 4)) → T19 w q W → Calls Try.prog 9 #[u1, u2] W fun e w' => e = .returned (.bool true) ∧ T19 w q w') := Lib.hid fun W u1 u2 h1 h2 h => (sameBools_any u1 u2 _ W h1 h2 hSL).mono fun e w' ⟨he, hb⟩ => ⟨he, IN _ (low_trans h.2.2.2.2 hb)⟩
        have KN : Hid (∀ W u1 u2, NumsI W u1 (leftR l q s) → NumsI W u2 (leftR l q s) → T19 w q W → Calls Try.prog 12 #[u1, u2] W fun e w' => e = .returned (.bool true) ∧ T19 w q w') := Lib.hid fun W u1 u2 h1 h2 h => (sameInts_any u1 u2 _ W h1 h2 (by omega) hFM).mono fun e w' ⟨he, hb⟩ => ⟨he, IN _ (low_trans h.2.2.2.2 hb)⟩
        have KW : Hid (∀ W, T19 w q W → Calls Try.prog 6 #[] W fun e w' => e = .returned (.bool true) ∧ T19 w q w') := Lib.hid fun W h => (AW.out W).mono fun e w' ⟨he, hb⟩ => ⟨he, IN _ (low_trans h.2.2.2.2 hb)⟩
        have hk0 : T19 w q wr := IN _ HL.out
        have JD : Hid (∀ W, T19 w q W → T19 w q W.drew) := Lib.hid fun W h => IN _ (low_drewN h.2.2.2.2 1)
        generalize ls l.length (savedR l q s 4) = FF at KS1 KS2 KB
        generalize leftR l q s = GG at KL1 KL2 KN
        clear IN PN hSL hFL hFM
        obtain ⟨k0, k1, k2, k3, hsk⟩ := id hk0
        go_wp2_with fail
        go_region_held3 (fun w' => w'.cell? ⟨w.heap.size, 0, none⟩ = some (.int .i64 q.g) ∧ w'.cell? ⟨w.heap.size, 1, none⟩ = some (.int .i64 q.p) ∧ w'.cell? ⟨w.heap.size, 2, none⟩ = some (.int .i64 q.w) ∧ w'.cell? ⟨w.heap.size, 3, none⟩ = some (.int .i64 q.t) ∧ Lows (w.alloc (.cells #[.int .i64 q.g, .int .i64 q.p, .int .i64 q.w, .int .i64 q.t] 24)) w')
          (first | (with_reducible assumption) | (with_reducible exact JD.out _ (by with_reducible assumption)))
          (first
            | (go_at_call 10; (with_reducible refine (KS1.out _ (by with_reducible assumption)).mono ?_); rintro e w9 ⟨u, rfl, hF, hbF, hkw⟩; (try have hG2 := hG.below hbF))
            | (go_at_call 11; (with_reducible refine (KS2.out _ (by with_reducible assumption)).mono ?_); rintro e w9 ⟨u, rfl, hG, hbG, hkw⟩; (try have hF2 := hF.below hbG))
            | (go_at_call 9; first
              | ((with_reducible refine (KB.out _ _ _ hF hG2 (by with_reducible assumption)).mono ?_); rintro e w9 ⟨rfl, hkw⟩)
              | ((with_reducible refine (KB.out _ _ _ hF2 hG (by with_reducible assumption)).mono ?_); rintro e w9 ⟨rfl, hkw⟩))
            | (go_at_call 13; (with_reducible refine (KL1.out _ (by with_reducible assumption)).mono ?_); rintro e w9 ⟨u, rfl, hM, hbM, hkw⟩; (try have hO2 := hO.below hbM))
            | (go_at_call 14; (with_reducible refine (KL2.out _ (by with_reducible assumption)).mono ?_); rintro e w9 ⟨u, rfl, hO, hbO, hkw⟩; (try have hM2 := hM.below hbO))
            | (go_at_call 12; first
              | ((with_reducible refine (KN.out _ _ _ hM hO2 (by with_reducible assumption)).mono ?_); rintro e w9 ⟨rfl, hkw⟩)
              | ((with_reducible refine (KN.out _ _ _ hM2 hO (by with_reducible assumption)).mono ?_); rintro e w9 ⟨rfl, hkw⟩))
            | (go_at_call 7; first
              | ((with_reducible refine (KI1.out _ (by with_reducible assumption)).mono ?_); rintro e w9 ⟨rfl, hkw⟩)
              | ((with_reducible refine (KI2.out _ (by with_reducible assumption)).mono ?_); rintro e w9 ⟨rfl, hkw⟩))
            | (go_at_call 6; (with_reducible refine (KW.out _ (by with_reducible assumption)).mono ?_); rintro e w9 ⟨rfl, hkw⟩))
        all_goals
          have hkf := ‹T19 w q _›
          go_wp2_with fail
          go_ret
          exact ⟨rfl, low_trans L0.out hkf.2.2.2.2⟩
namespace shieldTells
theorem contract (H : Type) (enc : TypeId × Value → H) (W : World) (base : Nat) (args : Array Value) (ds gs : List (DataW H)) (before : List MemPlace)
    (hval0 : ∀ (j : Nat) t v, Try.f3.params[j]? = some t → args[j]? = some v → Value.okWide Try.prog W .any base t v)
    (hW : DataW.Whole enc Try.prog Try.f3.params.toList Rows.shieldTellsSpec.vars false W args.toList ds gs before) (hSh : W.ShapedOpen Try.prog) :
    Calls Try.prog 3 args W fun e W' => ∃ v, e = .returned v ∧ Rows.shieldTellsSpec.post enc Try.prog Try.f3 false true false false W args v W' := by
  have hval : ∀ (j : Nat) t v, Try.f3.params[j]? = some t → args[j]? = some v → Value.okWide Try.prog W .any base t v := hval0
  have hW' := hW
  obtain ⟨p, q, hA0, hV, _, _, _⟩ := hW
  have hA : DataW.TrodAll enc Try.prog W 0 (fun _ => true) true Try.f3.params.toList args.toList ds p := hA0
  rw [Try.params3] at hA hval
  obtain ⟨v0, vs0, d0, ds0, p0, q0, hargs, rfl, rfl, h0, r0⟩ := trodAll_cons hA
  obtain ⟨v1, vs1, d1, ds1, p1, q1, rfl, rfl, rfl, h1, r1⟩ := trodAll_cons r0
  obtain ⟨v2, vs2, d2, ds2, p2, q2, rfl, rfl, rfl, h2, r2⟩ := trodAll_cons r1
  obtain ⟨rfl, rfl, rfl⟩ := trodAll_nil r2
  obtain rfl : args = #[v0, v1, v2] := by cases args; simp_all
  obtain ⟨rfl, rfl⟩ := trodVars_none hV
  obtain ⟨l0, t0, n0, s0⟩ := open_peers (hval 0 22 v0 rfl rfl) h0
  obtain ⟨a1, z1, rfl⟩ := open_quota (hval 1 24 v1 rfl rfl) h1
  obtain ⟨b2, rfl, rfl, rfl, w2⟩ := open_int Try.underlying25 (hval 2 25 v2 rfl rfl) h2
  obtain ⟨a2, rfl, z2⟩ := nat_of_u64 w2
  clear hA0 hval0
  refine (shieldTells_walk W v0 l0 t0 s0 a1 z1 a2 z2).mono fun e W' ⟨he, hg⟩ => ?_
  subst he
  exact ⟨_, rfl, post_law laidOut (by kernel_rfl) (by kernel_rfl) Try.underlying4 rfl hW' rfl rfl rfl hg⟩
set_option maxRecDepth 100000 in
theorem lifted (os : Os) (started : os.Started) (H : Type) (enc : TypeId × Value → H) (F : Stop.Interp) :
    ReturnsInHanded {} Try.checked os 3 .any ((OpenSpec.ofChange Rows.shieldTellsSpec).preRow enc Try.prog Try.f3 Rows.shieldTellsRow.domain false Rows.shieldTellsRow.laid) (((OpenSpec.ofChange Rows.shieldTellsSpec).at F).post enc Try.prog Try.f3 false true false false) := by
  refine returnsInHanded_of_row (C := Try.checked) (s := OpenSpec.ofChange Rows.shieldTellsSpec) own started (by kernel_rfl) Try.func3
    (witness_laid (enc := enc) (C := Try.checked) (s := OpenSpec.ofChange Rows.shieldTellsSpec) (laid := Rows.shieldTellsRow.laid) #[.slice none 0 0, .agg #[.int .i64 0, .int .i64 0, .int .i64 0, .int .i64 0], .int .u64 0] (World.shaped_of_ZipB (by kernel_rfl) (by kernel_rfl)) (by kernel_rfl)
      (OpenSpec.preRow_of_cond 8 (x := ([.nil, .agg [.lit (.int .i64 0), .lit (.int .i64 0), .lit (.int .i64 0), .lit (.int .i64 0)], .lit (.int .u64 0)], [], [])) (by kernel_rfl) (by kernel_rfl) (fun k hk => by cases hk) (by kernel_rfl)
        (by rw [MakeChecks.laidMetH_plain _ _ _ (by kernel_rfl)]; exact laidMet_laidAll _ (by kernel_rfl) (by kernel_rfl)))) ?_
  intro W base args ds gs before hval hW _ hcond _ _ hsh _
  exact contract H enc W base args ds gs before hval hW hsh
theorem over : Rows.shieldTellsRow.holds Try.pinned (OpenSpec.ofChange Rows.shieldTellsSpec) :=
  OpenClaim.holds_of_cond 3 Try.f3 rfl rfl rfl rfl rfl rfl rfl ⟨rfl, rfl, rfl, rfl, rfl⟩ rfl rfl rfl rfl rfl (by kernel_rfl) Try.func3 (by kernel_rfl)
    (of_decide_eq_true (by kernel_rfl)) (by unfold Func.isWrapper; first | (rw [if_pos (by decide +kernel)]; kernel_rfl) | (rw [if_neg (by decide +kernel)]; exact ⟨rfl, rfl⟩))
    (fun os started H enc _ F => by rw [OpenClaim.pre_eq_preRow]; exact lifted os started H enc F)
/-- ████ THE STATEMENT ████ -/
theorem proved : Rows.ShieldTellsSaid := over
end shieldTells
end Go.Proofs.Ytlnbjkbbnhjkgaa
