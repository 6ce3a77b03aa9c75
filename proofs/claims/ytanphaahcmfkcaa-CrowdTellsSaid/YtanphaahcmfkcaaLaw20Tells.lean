/- The first statement of layer 20, proved: the crowd of each of any peers, who is younger, and who goes, are as the document has them; for all lists of peers. -/
import Derived.Test.YtanphaahcmfkcaaLaw20
namespace Go.Proofs.Ytanphaahcmfkcaa
set_option maxRecDepth 100000
open Go.ChangeShapes Go.WideShapes Go.ChangeAt Go.RowKit
open Dec Words V4 V6 Ad Ci En Sat Ha Pe Stb Gr Mi Ra Cw Go.Deep
set_option linter.unusedVariables false
set_option maxHeartbeats 16000000 in
theorem crowdTells_walk (w : World) (v : Value) (l : List Pr) (h : Peers w v l) (hok : ∀ x ∈ l, x.ok) (i : Int) (hi : (-9223372036854775808 ≤ i ∧ i ≤ 9223372036854775807)) :
    Calls Try.prog 3 #[v, .int .i64 i] w fun e w' => e = .returned (.bool true) ∧ Below w.heap.size w w' := by
  have PW := Lib.hid h
  have AW := Lib.hid (fun W => awake20_any W)
  have HOK := Lib.hid hok
  have KC0 : Hid (l.length ≤ 1000000 → ∀ (W : World) (i : Int), Lows w W → Calls Try.prog 6 #[v, .int .i64 i] W fun e w' => e = .returned (.int .i64 (crowdR l i)) ∧ Below W.heap.size W w') := Lib.hid fun hl W i hW => crowd_any v l i W (h.below hW) hok hl
  have KR0 : Hid (l.length ≤ 1000000 → ∀ (W : World) (i : Int), Lows w W → Calls Try.prog 7 #[v, .int .i64 i] W fun e w' => e = .returned (.int .i64 (crowdR l i)) ∧ Below W.heap.size W w') := Lib.hid fun hl W i hW => rcrowd_any v l i W (h.below hW) hok hl
  have KP0 : Hid (l.length ≤ 1000000 → ∀ (W : World), Lows w W → Calls Try.prog 10 #[v] W fun e w' => e = .returned (.int .i64 (pickR l)) ∧ Below W.heap.size W w') := Lib.hid fun hl W hW => pick_any v l W (h.below hW) hok hl
  have KQ0 : Hid (l.length ≤ 1000000 → ∀ (W : World), Lows w W → Calls Try.prog 11 #[v] W fun e w' => e = .returned (.int .i64 (pickR l)) ∧ Below W.heap.size W w') := Lib.hid fun hl W hW => rpick_any v l W (h.below hW) hok hl
  obtain ⟨A, c, rfl, hc, _, hcell⟩ := h
  have HC := Lib.hid hcell
  clear hcell hok hi
  by_cases h30 : 30 < l.length
  · have h30z : (30 : Int) < (l.length : Int) := by omega
    go_enter Try.func3, Try.ntmps3
    go_wp2_with fail
    refine (AW.out _).mono ?_; rintro e w1 ⟨rfl, hb1⟩
    go_wp2_with fail
    go_ret
    exact ⟨rfl, hb1⟩
  · have h30z : ¬ (30 : Int) < (l.length : Int) := by omega
    have hl1 : l.length ≤ 1000000 := by omega
    have KC := Lib.hid (KC0.out hl1)
    have KR := Lib.hid (KR0.out hl1)
    have KP := Lib.hid (KP0.out hl1)
    have KQ := Lib.hid (KQ0.out hl1)
    clear KC0 KR0 KP0 KQ0
    go_enter Try.func3, Try.ntmps3
    go_wp2_with fail
    go_loopw [5] (fun vi wr => ∃ k : Nat, vi = .int .i64 k ∧ k ≤ l.length ∧ Hid (Below w.heap.size w wr)) (fun vi _ => l.length - (intOf vi).toNat)
    case atStart => exact ⟨0, rfl, Nat.zero_le _, Lib.hid (Below.refl _ _)⟩
    case round =>
      obtain ⟨k, rfl, hk, HL⟩ := hrel
      obtain ⟨q, hq⟩ : ∃ q : Nat, q = k + 1 := ⟨_, rfl⟩
      have eq : (k : Int) + 1 = (q : Int) := by omega
      have hw : IntKind.i64.wrap ((k : Int) + 1) = (q : Int) := by rw [IntKind.wrap_i64]; omega
      by_cases hlq : q < l.length
      · have hlqz : (q : Int) < (l.length : Int) := by omega
        have hlk : k < l.length := by omega
        have hlkz : (k : Int) < (l.length : Int) := by omega
        obtain ⟨bb, o, rfl, hb, hcc⟩ := HC.out (by omega)
        obtain ⟨x, hx⟩ : ∃ x, x = l[k]! := ⟨_, rfl⟩
        obtain ⟨z, hz⟩ : ∃ x, x = l[q]! := ⟨_, rfl⟩
        have hxo : x.ok := by rw [hx, getElem!_pos l k hlk]; exact HOK.out _ (List.getElem_mem _)
        have hzo : z.ok := by rw [hz, getElem!_pos l q hlq]; exact HOK.out _ (List.getElem_mem _)
        have hne : Nonempty (Cls (Lows wr)) := ⟨⟨_, Lows.self _⟩⟩
        have f0 : ∀ nq : Cls (Lows wr), nq.w.cell? ⟨bb, o + k * 10, none⟩ = some (.bool x.e.a.v6) := fun nq => by rw [hx]; exact peer_at (low_trans'' HL.out nq.h) hb hcc hlk (j := 0) rfl
        have f1 : ∀ nq : Cls (Lows wr), nq.w.cell? ⟨bb, o + k * 10 + 1, none⟩ = some (.int .u64 x.e.a.hi) := fun nq => by rw [hx]; exact peer_at (low_trans'' HL.out nq.h) hb hcc hlk (j := 1) rfl
        have f2 : ∀ nq : Cls (Lows wr), nq.w.cell? ⟨bb, o + k * 10 + 2, none⟩ = some (.int .u64 x.e.a.lo) := fun nq => by rw [hx]; exact peer_at (low_trans'' HL.out nq.h) hb hcc hlk (j := 2) rfl
        have f3 : ∀ nq : Cls (Lows wr), nq.w.cell? ⟨bb, o + k * 10 + 3, none⟩ = some (.int .i64 x.e.n) := fun nq => by rw [hx]; exact peer_at (low_trans'' HL.out nq.h) hb hcc hlk (j := 3) rfl
        have f4 : ∀ nq : Cls (Lows wr), nq.w.cell? ⟨bb, o + k * 10 + 4, none⟩ = some (.bool x.i) := fun nq => by rw [hx]; exact peer_at (low_trans'' HL.out nq.h) hb hcc hlk (j := 4) rfl
        have f5 : ∀ nq : Cls (Lows wr), nq.w.cell? ⟨bb, o + k * 10 + 5, none⟩ = some (.int .i64 x.t) := fun nq => by rw [hx]; exact peer_at (low_trans'' HL.out nq.h) hb hcc hlk (j := 5) rfl
        have f6 : ∀ nq : Cls (Lows wr), nq.w.cell? ⟨bb, o + k * 10 + 6, none⟩ = some (.int .i64 x.c.p) := fun nq => by rw [hx]; exact peer_at (low_trans'' HL.out nq.h) hb hcc hlk (j := 6) rfl
        have f7 : ∀ nq : Cls (Lows wr), nq.w.cell? ⟨bb, o + k * 10 + 7, none⟩ = some (.int .i64 x.c.a) := fun nq => by rw [hx]; exact peer_at (low_trans'' HL.out nq.h) hb hcc hlk (j := 7) rfl
        have f8 : ∀ nq : Cls (Lows wr), nq.w.cell? ⟨bb, o + k * 10 + 8, none⟩ = some (.int .i64 x.g) := fun nq => by rw [hx]; exact peer_at (low_trans'' HL.out nq.h) hb hcc hlk (j := 8) rfl
        have f9 : ∀ nq : Cls (Lows wr), nq.w.cell? ⟨bb, o + k * 10 + 9, none⟩ = some (.int .i64 x.k) := fun nq => by rw [hx]; exact peer_at (low_trans'' HL.out nq.h) hb hcc hlk (j := 9) rfl
        have g0 : ∀ nq : Cls (Lows wr), nq.w.cell? ⟨bb, o + q * 10, none⟩ = some (.bool z.e.a.v6) := fun nq => by rw [hz]; exact peer_at (low_trans'' HL.out nq.h) hb hcc hlq (j := 0) rfl
        have g1 : ∀ nq : Cls (Lows wr), nq.w.cell? ⟨bb, o + q * 10 + 1, none⟩ = some (.int .u64 z.e.a.hi) := fun nq => by rw [hz]; exact peer_at (low_trans'' HL.out nq.h) hb hcc hlq (j := 1) rfl
        have g2 : ∀ nq : Cls (Lows wr), nq.w.cell? ⟨bb, o + q * 10 + 2, none⟩ = some (.int .u64 z.e.a.lo) := fun nq => by rw [hz]; exact peer_at (low_trans'' HL.out nq.h) hb hcc hlq (j := 2) rfl
        have g3 : ∀ nq : Cls (Lows wr), nq.w.cell? ⟨bb, o + q * 10 + 3, none⟩ = some (.int .i64 z.e.n) := fun nq => by rw [hz]; exact peer_at (low_trans'' HL.out nq.h) hb hcc hlq (j := 3) rfl
        have g4 : ∀ nq : Cls (Lows wr), nq.w.cell? ⟨bb, o + q * 10 + 4, none⟩ = some (.bool z.i) := fun nq => by rw [hz]; exact peer_at (low_trans'' HL.out nq.h) hb hcc hlq (j := 4) rfl
        have g5 : ∀ nq : Cls (Lows wr), nq.w.cell? ⟨bb, o + q * 10 + 5, none⟩ = some (.int .i64 z.t) := fun nq => by rw [hz]; exact peer_at (low_trans'' HL.out nq.h) hb hcc hlq (j := 5) rfl
        have g6 : ∀ nq : Cls (Lows wr), nq.w.cell? ⟨bb, o + q * 10 + 6, none⟩ = some (.int .i64 z.c.p) := fun nq => by rw [hz]; exact peer_at (low_trans'' HL.out nq.h) hb hcc hlq (j := 6) rfl
        have g7 : ∀ nq : Cls (Lows wr), nq.w.cell? ⟨bb, o + q * 10 + 7, none⟩ = some (.int .i64 z.c.a) := fun nq => by rw [hz]; exact peer_at (low_trans'' HL.out nq.h) hb hcc hlq (j := 7) rfl
        have g8 : ∀ nq : Cls (Lows wr), nq.w.cell? ⟨bb, o + q * 10 + 8, none⟩ = some (.int .i64 z.g) := fun nq => by rw [hz]; exact peer_at (low_trans'' HL.out nq.h) hb hcc hlq (j := 8) rfl
        have g9 : ∀ nq : Cls (Lows wr), nq.w.cell? ⟨bb, o + q * 10 + 9, none⟩ = some (.int .i64 z.k) := fun nq => by rw [hz]; exact peer_at (low_trans'' HL.out nq.h) hb hcc hlq (j := 9) rfl
        have C1 : Hid (∀ X, Lows wr X → Calls Try.prog 6 #[.slice (some ⟨bb, o, none⟩) l.length c, .int .i64 (k : Int)] X fun e w' => e = .returned (.int .i64 (crowdR l (k : Int))) ∧ Lows wr w') := Lib.hid fun X h => (KC.out X k (low_trans'' HL.out h)).mono fun e w' ⟨he, hb⟩ => ⟨he, low_trans h hb⟩
        have C2 : Hid (∀ X, Lows wr X → Calls Try.prog 7 #[.slice (some ⟨bb, o, none⟩) l.length c, .int .i64 (k : Int)] X fun e w' => e = .returned (.int .i64 (crowdR l (k : Int))) ∧ Lows wr w') := Lib.hid fun X h => (KR.out X k (low_trans'' HL.out h)).mono fun e w' ⟨he, hb⟩ => ⟨he, low_trans h hb⟩
        have C3 := Lib.hid (fun W => younger_any x z W hxo hzo)
        have C4 := Lib.hid (fun W => ryounger_any x z W hxo hzo)
        generalize crowdR l (k : Int) = r at C1 C2
        generalize youngR x z = y at C3 C4
        have hrr : (r != r) = false := by simp
        have hyy : (y != y) = false := by simp
        clear hcc hb hx hz hxo hzo hq
        go_wp2_with fail
        refine Cls.region (Lows wr) (by kernel_rfl) (by kernel_rfl) (low_drewN (Below.refl _ _) 1) ?_
        (try dsimp only [List.append])
        repeat (go_big_quiet_step (first | fail | (with_reducible exact Cls.call (C1.out _ (Cls.h _))) | (with_reducible exact Cls.call (C2.out _ (Cls.h _))) | (with_reducible exact Cls.call ((lows_call C3).out _ (Cls.h _))) | (with_reducible exact Cls.call ((lows_call C4).out _ (Cls.h _)))))
        refine wpQuiet_nil ?_
        intro n9
        have hk9 := n9.h
        generalize n9.w = w9 at hk9 ⊢
        clear hne n9 f0 f1 f2 f3 f4 f5 f6 f7 f8 f9 g0 g1 g2 g3 g4 g5 g6 g7 g8 g9
        go_wp2_with fail
        go_roundw
        case rel => exact ⟨k + 1, by go_num, by omega, Lib.hid (low_trans'' HL.out hk9)⟩
        case measure => simp [intOf]; omega
      · have hlqz : ¬ (q : Int) < (l.length : Int) := by omega
        clear hq
        go_wp2_with fail
        refine (KC.out _ i HL.out).mono ?_; rintro e w1 ⟨rfl, hb1⟩
        have L1 := Lib.hid (low_trans'' HL.out hb1)
        clear hb1 KC
        go_wp2_with fail
        refine (KR.out _ i L1.out).mono ?_; rintro e w2 ⟨rfl, hb2⟩
        have L2 := Lib.hid (low_trans'' L1.out hb2)
        clear hb2 L1 KR
        generalize crowdR l i = r
        go_wp2_with fail
        refine (KP.out _ L2.out).mono ?_; rintro e w3 ⟨rfl, hb3⟩
        have L3 := Lib.hid (low_trans'' L2.out hb3)
        clear hb3 L2 KP
        go_wp2_with fail
        refine (KQ.out _ L3.out).mono ?_; rintro e w4 ⟨rfl, hb4⟩
        have L4 := Lib.hid (low_trans'' L3.out hb4)
        clear hb4 L3 KQ
        generalize pickR l = r2
        go_wp2_with fail
        refine (AW.out _).mono ?_; rintro e w5 ⟨rfl, hb5⟩
        have L5 := Lib.hid (low_trans'' L4.out hb5)
        go_wp2_with fail
        go_ret
        exact ⟨rfl, L5.out⟩
namespace crowdTells
theorem contract (H : Type) (enc : TypeId × Value → H) (W : World) (base : Nat) (args : Array Value) (ds gs : List (DataW H)) (before : List MemPlace)
    (hval0 : ∀ (j : Nat) t v, Try.f3.params[j]? = some t → args[j]? = some v → Value.okWide Try.prog W .any base t v)
    (hW : DataW.Whole enc Try.prog Try.f3.params.toList Rows.crowdTellsSpec.vars false W args.toList ds gs before) (hSh : W.ShapedOpen Try.prog) :
    Calls Try.prog 3 args W fun e W' => ∃ v, e = .returned v ∧ Rows.crowdTellsSpec.post enc Try.prog Try.f3 false true false false W args v W' := by
  have hval : ∀ (j : Nat) t v, Try.f3.params[j]? = some t → args[j]? = some v → Value.okWide Try.prog W .any base t v := hval0
  have hW' := hW
  obtain ⟨p, q, hA0, hV, _, _, _⟩ := hW
  have hA : DataW.TrodAll enc Try.prog W 0 (fun _ => true) true Try.f3.params.toList args.toList ds p := hA0
  rw [Try.params3] at hA hval
  obtain ⟨v0, vs0, d0, ds0, p0, q0, hargs, rfl, rfl, h0, r0⟩ := trodAll_cons hA
  obtain ⟨v1, vs1, d1, ds1, p1, q1, rfl, rfl, rfl, h1, r1⟩ := trodAll_cons r0
  obtain ⟨rfl, rfl, rfl⟩ := trodAll_nil r1
  obtain rfl : args = #[v0, v1] := by cases args; simp_all
  obtain ⟨rfl, rfl⟩ := trodVars_none hV
  obtain ⟨l0, t0, n0, s0⟩ := open_peers (hval 0 22 v0 rfl rfl) h0
  obtain ⟨b1, rfl, rfl, rfl, w1⟩ := open_int Try.underlying3 (hval 1 3 v1 rfl rfl) h1
  clear hA0 hval0
  refine (crowdTells_walk W v0 l0 t0 s0 b1 (wf64 w1)).mono fun e W' ⟨he, hg⟩ => ?_
  subst he
  exact ⟨_, rfl, post_law laidOut (by kernel_rfl) (by kernel_rfl) Try.underlying4 rfl hW' rfl rfl rfl hg⟩
set_option maxRecDepth 100000 in
theorem lifted (os : Os) (started : os.Started) (H : Type) (enc : TypeId × Value → H) (F : Stop.Interp) :
    ReturnsInHanded {} Try.checked os 3 .any ((OpenSpec.ofChange Rows.crowdTellsSpec).preRow enc Try.prog Try.f3 Rows.crowdTellsRow.domain false Rows.crowdTellsRow.laid) (((OpenSpec.ofChange Rows.crowdTellsSpec).at F).post enc Try.prog Try.f3 false true false false) := by
  refine returnsInHanded_of_row (C := Try.checked) (s := OpenSpec.ofChange Rows.crowdTellsSpec) own started (by kernel_rfl) Try.func3
    (witness_laid (enc := enc) (C := Try.checked) (s := OpenSpec.ofChange Rows.crowdTellsSpec) (laid := Rows.crowdTellsRow.laid) #[.slice none 0 0, .int .i64 0] (World.shaped_of_ZipB (by kernel_rfl) (by kernel_rfl)) (by kernel_rfl)
      (OpenSpec.preRow_of_cond 8 (x := ([.nil, .lit (.int .i64 0)], [], [])) (by kernel_rfl) (by kernel_rfl) (fun k hk => by cases hk) (by kernel_rfl)
        (by rw [MakeChecks.laidMetH_plain _ _ _ (by kernel_rfl)]; exact laidMet_laidAll _ (by kernel_rfl) (by kernel_rfl)))) ?_
  intro W base args ds gs before hval hW _ hcond _ _ hsh _
  exact contract H enc W base args ds gs before hval hW hsh
theorem over : Rows.crowdTellsRow.holds Try.pinned (OpenSpec.ofChange Rows.crowdTellsSpec) :=
  OpenClaim.holds_of_cond 3 Try.f3 rfl rfl rfl rfl rfl rfl rfl ⟨rfl, rfl, rfl, rfl, rfl⟩ rfl rfl rfl rfl rfl (by kernel_rfl) Try.func3 (by kernel_rfl)
    (of_decide_eq_true (by kernel_rfl)) (by unfold Func.isWrapper; first | (rw [if_pos (by decide +kernel)]; kernel_rfl) | (rw [if_neg (by decide +kernel)]; exact ⟨rfl, rfl⟩))
    (fun os started H enc _ F => by rw [OpenClaim.pre_eq_preRow]; exact lifted os started H enc F)
/-- ████ THE STATEMENT ████ -/
theorem proved : Rows.CrowdTellsSaid := over
end crowdTells
end Go.Proofs.Ytanphaahcmfkcaa
