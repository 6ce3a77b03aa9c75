/- The first statement of layer 21, proved: of whom one would go, and who goes, of any peers, by any quotas, are as the document has them; for all lists of peers, all quotas and all secrets. -/
import Derived.Test.YtklmlgoeiaigkaaLaw21
namespace Go.Proofs.Ytklmlgoeiaigkaa
set_option maxRecDepth 100000
open Go.ChangeShapes Go.WideShapes Go.ChangeAt Go.RowKit
open Dec Words V4 V6 Ad Ci En Sat Ha Pe Stb Gr Mi Ra Sh Cw Ev Go.Deep
set_option linter.unusedVariables false
abbrev T21 (w : World) (q : Qt) (E : Endp) (w1 w2 W3 w' : World) : Prop := w'.cell? ⟨w.heap.size, 0, none⟩ = some (.int .i64 q.g) ∧ w'.cell? ⟨w.heap.size, 1, none⟩ = some (.int .i64 q.p) ∧ w'.cell? ⟨w.heap.size, 2, none⟩ = some (.int .i64 q.w) ∧ w'.cell? ⟨w.heap.size, 3, none⟩ = some (.int .i64 q.t) ∧ w'.cell? ⟨w1.heap.size, 0, none⟩ = some (.bool E.a.v6) ∧ w'.cell? ⟨w1.heap.size, 1, none⟩ = some (.int .u64 E.a.hi) ∧ w'.cell? ⟨w1.heap.size, 2, none⟩ = some (.int .u64 E.a.lo) ∧ w'.cell? ⟨w1.heap.size, 3, none⟩ = some (.int .i64 E.n) ∧ w'.cell? ⟨w2.heap.size, 0, none⟩ = some (.bool E.a.v6) ∧ w'.cell? ⟨w2.heap.size, 1, none⟩ = some (.int .u64 E.a.hi) ∧ w'.cell? ⟨w2.heap.size, 2, none⟩ = some (.int .u64 E.a.lo) ∧ w'.cell? ⟨w2.heap.size, 3, none⟩ = some (.int .i64 E.n) ∧ Lows W3 w'
set_option maxHeartbeats 24000000 in
theorem evictTells_walk (w : World) (v : Value) (l : List Pr) (h : Peers w v l) (hok : ∀ x ∈ l, x.ok) (q : Qt) (hq : q.ok) (s : Nat) (hs : s < 18446744073709551616) :
    Calls Try.prog 3 #[v, .agg #[.int .i64 q.g, .int .i64 q.p, .int .i64 q.w, .int .i64 q.t], .int .u64 (s : Nat)] w fun e w' => e = .returned (.bool true) ∧ Below w.heap.size w w' := by
  have AW := Lib.hid (fun W => awake21_any W)
  have OB : Hid (Blk (w.alloc (.cells #[.int .i64 q.g, .int .i64 q.p, .int .i64 q.w, .int .i64 q.t] 24)) w.heap.size 24 [.int .i64 q.g, .int .i64 q.p, .int .i64 q.w, .int .i64 q.t]) := Lib.hid (Blk.new w #[.int .i64 q.g, .int .i64 q.p, .int .i64 q.w, .int .i64 q.t] 24)
  have L0 : Hid (Lows w (w.alloc (.cells #[.int .i64 q.g, .int .i64 q.p, .int .i64 q.w, .int .i64 q.t] 24))) := Lib.hid (Lows.alloc (Lows.self w) _)
  by_cases h30 : 30 < l.length
  · have h30z : (30 : Int) < (l.length : Int) := by omega
    obtain ⟨A, c, rfl, hc, _, hcell⟩ := h
    clear hcell hok hs hq
    go_enter Try.func3, Try.ntmps3
    go_wp2_with fail
    refine (AW.out _).mono ?_; rintro e w1 ⟨rfl, hb1⟩
    go_wp2_with fail
    go_ret
    exact ⟨rfl, low_trans L0.out hb1⟩
  · have h30z : ¬ (30 : Int) < (l.length : Int) := by omega
    have hl9 : l.length ≤ 900000 := by omega
    have hCl : (candR l q s).length ≤ 1000000 := by have := cand_le l q s; omega
    have K1 : Hid (∀ W, Lows (w.alloc (.cells #[.int .i64 q.g, .int .i64 q.p, .int .i64 q.w, .int .i64 q.t] 24)) W → Calls Try.prog 7 #[v, .agg #[.int .i64 q.g, .int .i64 q.p, .int .i64 q.w, .int .i64 q.t], .int .u64 (s : Nat)] W fun e w' => e = .returned (.tuple #[.agg #[.bool (exitR (candR l q s)).a.v6, .int .u64 (exitR (candR l q s)).a.hi, .int .u64 (exitR (candR l q s)).a.lo, .int .i64 (exitR (candR l q s)).n], .bool (decide (0 < (candR l q s).length))]) ∧ Below W.heap.size W w') := Lib.hid fun W hW => choose_any v l q s W (h.below (low_trans L0.out hW)) hok hl9 hs
    have K2 : Hid (∀ W, Lows (w.alloc (.cells #[.int .i64 q.g, .int .i64 q.p, .int .i64 q.w, .int .i64 q.t] 24)) W → Calls Try.prog 8 #[v, .agg #[.int .i64 q.g, .int .i64 q.p, .int .i64 q.w, .int .i64 q.t], .int .u64 (s : Nat)] W fun e w' => e = .returned (.tuple #[.agg #[.bool (exitR (candR l q s)).a.v6, .int .u64 (exitR (candR l q s)).a.hi, .int .u64 (exitR (candR l q s)).a.lo, .int .i64 (exitR (candR l q s)).n], .bool (decide (0 < (candR l q s).length))]) ∧ Below W.heap.size W w') := Lib.hid fun W hW => rchoose_any v l q s W (h.below (low_trans L0.out hW)) hok hl9 hs
    have K3 : Hid (∀ W, Lows (w.alloc (.cells #[.int .i64 q.g, .int .i64 q.p, .int .i64 q.w, .int .i64 q.t] 24)) W → Calls Try.prog 10 #[v, .agg #[.int .i64 q.g, .int .i64 q.p, .int .i64 q.w, .int .i64 q.t], .int .u64 (s : Nat)] W fun e w' => ∃ u, e = .returned u ∧ Peers w' u (candR l q s) ∧ Below W.heap.size W w') := Lib.hid fun W hW => candidates_any v l q s W (h.below (low_trans L0.out hW)) hok hl9 hs
    have K4 : Hid (∀ W, Lows (w.alloc (.cells #[.int .i64 q.g, .int .i64 q.p, .int .i64 q.w, .int .i64 q.t] 24)) W → Calls Try.prog 11 #[v, .agg #[.int .i64 q.g, .int .i64 q.p, .int .i64 q.w, .int .i64 q.t], .int .u64 (s : Nat)] W fun e w' => ∃ u, e = .returned u ∧ Peers w' u (candR l q s) ∧ Below W.heap.size W w') := Lib.hid fun W hW => rcandidates_any v l q s W (h.below (low_trans L0.out hW)) hok hl9 hs
    have KB : Hid (∀ W u1 u2, Peers W u1 (candR l q s) → Peers W u2 (candR l q s) → Calls Try.prog 9 #[u1, u2] W fun e w' => e = .returned (.bool true) ∧ Below W.heap.size W w') := Lib.hid fun W u1 u2 h1 h2 => samePeers_any u1 u2 _ W h1 h2 hCl
    generalize exitR (candR l q s) = E at *
    generalize decide (0 < (candR l q s).length) = g at *
    generalize candR l q s = C at *
    obtain ⟨A, c, rfl, hc, _, hcell⟩ := h
    clear hcell hok hs hq hc hl9 hCl
    have EQ := fun W => eqEnd E E W
    rw [show sameE E E = true from (sameE_iff _ _).2 rfl] at EQ
    have zg : (g == g) = true := by simp
    have bc0 := OB.out.cell (j := 0) rfl
    have bc1 := OB.out.cell (j := 1) rfl
    have bc2 := OB.out.cell (j := 2) rfl
    have bc3 := OB.out.cell (j := 3) rfl
    go_enter Try.func3, Try.ntmps3
    go_wp2_with fail
    refine (K1.out _ (Lows.self _)).mono ?_; rintro e w1 ⟨rfl, hb1⟩
    have L1 : Hid (Lows (w.alloc (.cells #[.int .i64 q.g, .int .i64 q.p, .int .i64 q.w, .int .i64 q.t] 24)) (w1.alloc (.cells #[.bool E.a.v6, .int .u64 E.a.hi, .int .u64 E.a.lo, .int .i64 E.n] 30))) := Lib.hid (Lows.alloc hb1 _)
    have OE := Lib.hid (Blk.new w1 #[.bool E.a.v6, .int .u64 E.a.hi, .int .u64 E.a.lo, .int .i64 E.n] 30)
    clear hb1 bc0 bc1 bc2 bc3 K1
    have bc0 := Blk.in OB L1.out (j := 0) rfl
    have bc1 := Blk.in OB L1.out (j := 1) rfl
    have bc2 := Blk.in OB L1.out (j := 2) rfl
    have bc3 := Blk.in OB L1.out (j := 3) rfl
    go_wp2_with fail
    refine (K2.out _ L1.out).mono ?_; rintro e w2 ⟨rfl, hb2⟩
    obtain ⟨W3, hW3⟩ : ∃ W3, W3 = w2.alloc (.cells #[.bool E.a.v6, .int .u64 E.a.hi, .int .u64 E.a.lo, .int .i64 E.n] 30) := ⟨_, rfl⟩
    have L12 : Hid (Lows (w1.alloc (.cells #[.bool E.a.v6, .int .u64 E.a.hi, .int .u64 E.a.lo, .int .i64 E.n] 30)) W3) := Lib.hid (by rw [hW3]; exact Lows.alloc hb2 _)
    have OF : Hid (Blk W3 w2.heap.size 30 [.bool E.a.v6, .int .u64 E.a.hi, .int .u64 E.a.lo, .int .i64 E.n]) := Lib.hid (by rw [hW3]; exact Blk.new w2 #[.bool E.a.v6, .int .u64 E.a.hi, .int .u64 E.a.lo, .int .i64 E.n] 30)
    have L2 : Hid (Lows (w.alloc (.cells #[.int .i64 q.g, .int .i64 q.p, .int .i64 q.w, .int .i64 q.t] 24)) W3) := Lib.hid (low_trans L1.out L12.out)
    have OE2 := Lib.hid (OE.out.on L12.out)
    have OB2 := Lib.hid (OB.out.on L2.out)
    clear hb2 bc0 bc1 bc2 bc3 K2 L1 OE OB L12
    go_wp2_with fail
    rw [← hW3]
    clear hW3
    have IN : ∀ w', Lows W3 w' → T21 w q E w1 w2 W3 w' := fun w' h => ⟨Blk.in OB2 h rfl, Blk.in OB2 h rfl, Blk.in OB2 h rfl, Blk.in OB2 h rfl, Blk.in OE2 h rfl, Blk.in OE2 h rfl, Blk.in OE2 h rfl, Blk.in OE2 h rfl, Blk.in OF h rfl, Blk.in OF h rfl, Blk.in OF h rfl, Blk.in OF h rfl, h⟩
    have KC1 : Hid (∀ W, T21 w q E w1 w2 W3 W → Calls Try.prog 10 #[.slice A l.length c, .agg #[.int .i64 q.g, .int .i64 q.p, .int .i64 q.w, .int .i64 q.t], .int .u64 (s : Nat)] W fun e w' => ∃ u, e = .returned u ∧ Peers w' u C ∧ Below W.heap.size W w' ∧ T21 w q E w1 w2 W3 w') := Lib.hid fun W h => (K3.out W (low_trans L2.out h.2.2.2.2.2.2.2.2.2.2.2.2)).mono fun e w' ⟨u, he, hu, hb⟩ => ⟨u, he, hu, hb, IN _ (low_trans h.2.2.2.2.2.2.2.2.2.2.2.2 hb)⟩
    have KC2 : Hid (∀ W, T21 w q E w1 w2 W3 W → Calls Try.prog 11 #[.slice A l.length c, .agg #[.int .i64 q.g, .int .i64 q.p, .int .i64 q.w, .int .i64 q.t], .int .u64 (s : Nat)] W fun e w' => ∃ u, e = .returned u ∧ Peers w' u C ∧ Below W.heap.size W w' ∧ T21 w q E w1 w2 W3 w') := Lib.hid fun W h => (K4.out W (low_trans L2.out h.2.2.2.2.2.2.2.2.2.2.2.2)).mono fun e w' ⟨u, he, hu, hb⟩ => ⟨u, he, hu, hb, IN _ (low_trans h.2.2.2.2.2.2.2.2.2.2.2.2 hb)⟩
    have KN : Hid (∀ W u1 u2, Peers W u1 C → Peers W u2 C → T21 w q E w1 w2 W3 W → Calls Try.prog 9 #[u1, u2] W fun e w' => e = .returned (.bool true) ∧ T21 w q E w1 w2 W3 w') := Lib.hid fun W u1 u2 h1 h2 h => (KB.out W u1 u2 h1 h2).mono fun e w' ⟨he, hb⟩ => ⟨he, IN _ (low_trans h.2.2.2.2.2.2.2.2.2.2.2.2 hb)⟩
    have KW : Hid (∀ W, T21 w q E w1 w2 W3 W → Calls Try.prog 6 #[] W fun e w' => e = .returned (.bool true) ∧ T21 w q E w1 w2 W3 w') := Lib.hid fun W h => (AW.out W).mono fun e w' ⟨he, hb⟩ => ⟨he, IN _ (low_trans h.2.2.2.2.2.2.2.2.2.2.2.2 hb)⟩
    have hk0 : T21 w q E w1 w2 W3 W3 := IN _ (Lows.self _)
    have JD : Hid (∀ W, T21 w q E w1 w2 W3 W → T21 w q E w1 w2 W3 W.drew) := Lib.hid fun W h => IN _ (low_drewN h.2.2.2.2.2.2.2.2.2.2.2.2 1)
    have LF : Hid (Lows w W3) := Lib.hid (low_trans L0.out L2.out)
    clear IN K3 K4 KB AW OF OE2 OB2 L2 L0
    obtain ⟨k0, k1, k2, k3, k4, k5, k6, k7, k8, k9, k10, k11, k12⟩ := id hk0
    go_region_held3 (fun w' => w'.cell? ⟨w.heap.size, 0, none⟩ = some (.int .i64 q.g) ∧ w'.cell? ⟨w.heap.size, 1, none⟩ = some (.int .i64 q.p) ∧ w'.cell? ⟨w.heap.size, 2, none⟩ = some (.int .i64 q.w) ∧ w'.cell? ⟨w.heap.size, 3, none⟩ = some (.int .i64 q.t) ∧ w'.cell? ⟨w1.heap.size, 0, none⟩ = some (.bool E.a.v6) ∧ w'.cell? ⟨w1.heap.size, 1, none⟩ = some (.int .u64 E.a.hi) ∧ w'.cell? ⟨w1.heap.size, 2, none⟩ = some (.int .u64 E.a.lo) ∧ w'.cell? ⟨w1.heap.size, 3, none⟩ = some (.int .i64 E.n) ∧ w'.cell? ⟨w2.heap.size, 0, none⟩ = some (.bool E.a.v6) ∧ w'.cell? ⟨w2.heap.size, 1, none⟩ = some (.int .u64 E.a.hi) ∧ w'.cell? ⟨w2.heap.size, 2, none⟩ = some (.int .u64 E.a.lo) ∧ w'.cell? ⟨w2.heap.size, 3, none⟩ = some (.int .i64 E.n) ∧ Lows W3 w')
      (first | (with_reducible assumption) | (with_reducible exact JD.out _ (by with_reducible assumption)))
      (first
        | (go_at_call 10; (with_reducible refine (KC1.out _ (by with_reducible assumption)).mono ?_); rintro e w9 ⟨u, rfl, hF, hbF, hkw⟩; (try have hG2 := hG.below hbF))
        | (go_at_call 11; (with_reducible refine (KC2.out _ (by with_reducible assumption)).mono ?_); rintro e w9 ⟨u, rfl, hG, hbG, hkw⟩; (try have hF2 := hF.below hbG))
        | (go_at_call 9; first
          | ((with_reducible refine (KN.out _ _ _ hF hG2 (by with_reducible assumption)).mono ?_); rintro e w9 ⟨rfl, hkw⟩)
          | ((with_reducible refine (KN.out _ _ _ hF2 hG (by with_reducible assumption)).mono ?_); rintro e w9 ⟨rfl, hkw⟩))
        | (go_at_call 6; (with_reducible refine (KW.out _ (by with_reducible assumption)).mono ?_); rintro e w9 ⟨rfl, hkw⟩))
    all_goals
      have hkf := ‹T21 w q E w1 w2 W3 _›
      go_wp2_with fail
      go_ret
      exact ⟨rfl, low_trans LF.out hkf.2.2.2.2.2.2.2.2.2.2.2.2⟩
namespace evictTells
theorem contract (H : Type) (enc : TypeId × Value → H) (W : World) (base : Nat) (args : Array Value) (ds gs : List (DataW H)) (before : List MemPlace)
    (hval0 : ∀ (j : Nat) t v, Try.f3.params[j]? = some t → args[j]? = some v → Value.okWide Try.prog W .any base t v)
    (hW : DataW.Whole enc Try.prog Try.f3.params.toList Rows.evictTellsSpec.vars false W args.toList ds gs before) (hSh : W.ShapedOpen Try.prog) :
    Calls Try.prog 3 args W fun e W' => ∃ v, e = .returned v ∧ Rows.evictTellsSpec.post enc Try.prog Try.f3 false true false false W args v W' := by
  have hval : ∀ (j : Nat) t v, Try.f3.params[j]? = some t → args[j]? = some v → Value.okWide Try.prog W .any base t v := hval0
  have hW' := hW
  obtain ⟨p, q, hA0, hV, _, _, _⟩ := hW
  have hA : DataW.TrodAll enc Try.prog W 0 (fun _ => true) true Try.f3.params.toList args.toList ds p := hA0
  rw [Try.params3] at hA hval
  obtain ⟨v0, vs0, d0, ds0, p0, q0, hargs, rfl, rfl, h0, r0⟩ := trodAll_cons hA
  obtain ⟨v1, vs1, d1, ds1, p1, q1, rfl, rfl, rfl, h1, r1⟩ := trodAll_cons r0
  obtain ⟨v2, vs2, d2, ds2, p2, q2, rfl, rfl, rfl, h2, r2⟩ := trodAll_cons r1
  obtain ⟨rfl, rfl, rfl⟩ := trodAll_nil r2
  obtain rfl : args = #[v0, v1, v2] := by cases args; simp_all
  obtain ⟨rfl, rfl⟩ := trodVars_none hV
  obtain ⟨l0, t0, n0, s0⟩ := open_peers (hval 0 22 v0 rfl rfl) h0
  obtain ⟨a1, z1, rfl⟩ := open_quota (hval 1 24 v1 rfl rfl) h1
  obtain ⟨b2, rfl, rfl, rfl, w2⟩ := open_int Try.underlying25 (hval 2 25 v2 rfl rfl) h2
  obtain ⟨a2, rfl, z2⟩ := nat_of_u64 w2
  clear hA0 hval0
  refine (evictTells_walk W v0 l0 t0 s0 a1 z1 a2 z2).mono fun e W' ⟨he, hg⟩ => ?_
  subst he
  exact ⟨_, rfl, post_law laidOut (by kernel_rfl) (by kernel_rfl) Try.underlying4 rfl hW' rfl rfl rfl hg⟩
set_option maxRecDepth 100000 in
theorem lifted (os : Os) (started : os.Started) (H : Type) (enc : TypeId × Value → H) (F : Stop.Interp) :
    ReturnsInHanded {} Try.checked os 3 .any ((OpenSpec.ofChange Rows.evictTellsSpec).preRow enc Try.prog Try.f3 Rows.evictTellsRow.domain false Rows.evictTellsRow.laid) (((OpenSpec.ofChange Rows.evictTellsSpec).at F).post enc Try.prog Try.f3 false true false false) := by
  refine returnsInHanded_of_row (C := Try.checked) (s := OpenSpec.ofChange Rows.evictTellsSpec) own started (by kernel_rfl) Try.func3
    (witness_laid (enc := enc) (C := Try.checked) (s := OpenSpec.ofChange Rows.evictTellsSpec) (laid := Rows.evictTellsRow.laid) #[.slice none 0 0, .agg #[.int .i64 0, .int .i64 0, .int .i64 0, .int .i64 0], .int .u64 0] (World.shaped_of_ZipB (by kernel_rfl) (by kernel_rfl)) (by kernel_rfl)
      (OpenSpec.preRow_of_cond 8 (x := ([.nil, .agg [.lit (.int .i64 0), .lit (.int .i64 0), .lit (.int .i64 0), .lit (.int .i64 0)], .lit (.int .u64 0)], [], [])) (by kernel_rfl) (by kernel_rfl) (fun k hk => by cases hk) (by kernel_rfl)
        (by rw [MakeChecks.laidMetH_plain _ _ _ (by kernel_rfl)]; exact laidMet_laidAll _ (by kernel_rfl) (by kernel_rfl)))) ?_
  intro W base args ds gs before hval hW _ hcond _ _ hsh _
  exact contract H enc W base args ds gs before hval hW hsh
theorem over : Rows.evictTellsRow.holds Try.pinned (OpenSpec.ofChange Rows.evictTellsSpec) :=
  OpenClaim.holds_of_cond 3 Try.f3 rfl rfl rfl rfl rfl rfl rfl ⟨rfl, rfl, rfl, rfl, rfl⟩ rfl rfl rfl rfl rfl (by kernel_rfl) Try.func3 (by kernel_rfl)
    (of_decide_eq_true (by kernel_rfl)) (by unfold Func.isWrapper; first | (rw [if_pos (by decide +kernel)]; kernel_rfl) | (rw [if_neg (by decide +kernel)]; exact ⟨rfl, rfl⟩))
    (fun os started H enc _ F => by rw [OpenClaim.pre_eq_preRow]; exact lifted os started H enc F)
/-- ████ THE STATEMENT ████ -/
theorem proved : Rows.EvictTellsSaid := over
end evictTells
end Go.Proofs.Ytklmlgoeiaigkaa
