/- The second statement of layer 20, proved: nobody has a greater crowd than who goes, and of its own group nobody is younger; of peers with unlike ends one and the same goes, however they are turned; for all lists of peers. -/
import Derived.Test.YtanphaahcmfkcaaLaw20
namespace Go.Proofs.Ytanphaahcmfkcaa
set_option maxRecDepth 100000
open Go.ChangeShapes Go.WideShapes Go.ChangeAt Go.RowKit
open Dec Words V4 V6 Ad Ci En Sat Ha Pe Stb Gr Mi Ra Cw Go.Deep
set_option linter.unusedVariables false
set_option maxHeartbeats 24000000 in
theorem crowdGreatest_walk (w : World) (v : Value) (l : List Pr) (h : Peers w v l) (hok : ∀ x ∈ l, x.ok) (a : Int) (ha : (-9223372036854775808 ≤ a ∧ a ≤ 9223372036854775807)) :
    Calls Try.prog 4 #[v, .int .i64 a] w fun e w' => e = .returned (.bool true) ∧ Below w.heap.size w w' := by
  have PW := Lib.hid h
  have AW := Lib.hid (fun W => awake20_any W)
  have HOK := Lib.hid hok
  have HA := Lib.hid ha
  have KC0 : Hid (l.length ≤ 1000000 → ∀ (W : World) (i : Int), Lows w W → Calls Try.prog 6 #[v, .int .i64 i] W fun e w' => e = .returned (.int .i64 (crowdR l i)) ∧ Below W.heap.size W w') := Lib.hid fun hl W i hW => crowd_any v l i W (h.below hW) hok hl
  have KP0 : Hid (l.length ≤ 1000000 → ∀ (W : World), Lows w W → Calls Try.prog 10 #[v] W fun e w' => e = .returned (.int .i64 (pickR l)) ∧ Below W.heap.size W w') := Lib.hid fun hl W hW => pick_any v l W (h.below hW) hok hl
  obtain ⟨A, c, rfl, hc, _, hcell⟩ := h
  have HC := Lib.hid hcell
  clear hcell hok ha
  by_cases h30 : 30 < l.length
  · have h30z : (30 : Int) < (l.length : Int) := by omega
    go_enter Try.func4, Try.ntmps4
    go_wp2_with fail
    refine (AW.out _).mono ?_; rintro e w1 ⟨rfl, hb1⟩
    go_wp2_with fail
    go_ret
    exact ⟨rfl, hb1⟩
  · have h30z : ¬ (30 : Int) < (l.length : Int) := by omega
    have hl1 : l.length ≤ 1000000 := by omega
    by_cases hl0 : l.length = 0
    · have h0z : ((l.length : Int) == 0) = true := by rw [beq_iff_eq]; omega
      have h0y : (l.length : Int) = 0 := by omega
      clear hl0
      go_enter Try.func4, Try.ntmps4
      go_wp2_with fail
      refine (AW.out _).mono ?_; rintro e w1 ⟨rfl, hb1⟩
      go_wp2_with fail
      go_ret
      exact ⟨rfl, hb1⟩
    · have h0z : ((l.length : Int) == 0) = false := by rw [beq_eq_false_iff_ne]; omega
      have h0y : ¬ (l.length : Int) = 0 := by omega
      have hl2 : 1 ≤ l.length := by omega
      have KC := Lib.hid (KC0.out hl1)
      have KP := Lib.hid (KP0.out hl1)
      clear hl0 KC0 KP0
      go_enter Try.func4, Try.ntmps4
      go_wp2_with fail
      go_loopw [5] (fun vi wr => ∃ i : Nat, vi = .int .i64 i ∧ i ≤ l.length ∧ Hid (∀ p q, p < q → q < i → (l[p]!).e ≠ (l[q]!).e) ∧ Hid (Lows w wr)) (fun vi _ => l.length - (intOf vi).toNat)
      case atStart => exact ⟨0, rfl, Nat.zero_le _, Lib.hid (fun p q _ h => by omega), Lib.hid (Lows.self _)⟩
      case round =>
        obtain ⟨i, rfl, hi, HD, HL⟩ := hrel
        by_cases hli : i < l.length
        · have hliz : (i : Int) < (l.length : Int) := by omega
          obtain ⟨W, hW⟩ : ∃ W, W = wr := ⟨_, rfl⟩
          subst hW
          go_wp2_with fail
          go_loopw [6] (fun vk wr => ∃ k : Nat, vk = .int .i64 k ∧ k ≤ i ∧ Hid (∀ p, p < k → (l[p]!).e ≠ (l[i]!).e) ∧ Hid (Lows w wr)) (fun vk _ => i - (intOf vk).toNat)
          case atStart => exact ⟨0, rfl, Nat.zero_le _, Lib.hid (fun p h => by omega), HL⟩
          case round =>
            obtain ⟨k, rfl, hk, HE, HL2⟩ := hrel
            by_cases hki : k < i
            · have hkiz : (k : Int) < (i : Int) := by omega
              have hlk : k < l.length := by omega
              have hlkz : (k : Int) < (l.length : Int) := by omega
              obtain ⟨bb, o, rfl, hb9, hcc⟩ := HC.out (by omega)
              have hne : Nonempty (Cls (Lows wr)) := ⟨⟨_, Lows.self _⟩⟩
              obtain ⟨x, hx⟩ : ∃ x, x = l[i]! := ⟨_, rfl⟩
              obtain ⟨z, hz⟩ : ∃ x, x = l[k]! := ⟨_, rfl⟩
              have f0 : ∀ nq : Cls (Lows wr), nq.w.cell? ⟨bb, o + i * 10, none⟩ = some (.bool x.e.a.v6) := fun nq => by rw [hx]; exact peer_at (low_trans'' HL2.out nq.h) hb9 hcc hli (j := 0) rfl
              have f1 : ∀ nq : Cls (Lows wr), nq.w.cell? ⟨bb, o + i * 10 + 1, none⟩ = some (.int .u64 x.e.a.hi) := fun nq => by rw [hx]; exact peer_at (low_trans'' HL2.out nq.h) hb9 hcc hli (j := 1) rfl
              have f2 : ∀ nq : Cls (Lows wr), nq.w.cell? ⟨bb, o + i * 10 + 2, none⟩ = some (.int .u64 x.e.a.lo) := fun nq => by rw [hx]; exact peer_at (low_trans'' HL2.out nq.h) hb9 hcc hli (j := 2) rfl
              have f3 : ∀ nq : Cls (Lows wr), nq.w.cell? ⟨bb, o + i * 10 + 3, none⟩ = some (.int .i64 x.e.n) := fun nq => by rw [hx]; exact peer_at (low_trans'' HL2.out nq.h) hb9 hcc hli (j := 3) rfl
              have g0 : ∀ nq : Cls (Lows wr), nq.w.cell? ⟨bb, o + k * 10, none⟩ = some (.bool z.e.a.v6) := fun nq => by rw [hz]; exact peer_at (low_trans'' HL2.out nq.h) hb9 hcc hlk (j := 0) rfl
              have g1 : ∀ nq : Cls (Lows wr), nq.w.cell? ⟨bb, o + k * 10 + 1, none⟩ = some (.int .u64 z.e.a.hi) := fun nq => by rw [hz]; exact peer_at (low_trans'' HL2.out nq.h) hb9 hcc hlk (j := 1) rfl
              have g2 : ∀ nq : Cls (Lows wr), nq.w.cell? ⟨bb, o + k * 10 + 2, none⟩ = some (.int .u64 z.e.a.lo) := fun nq => by rw [hz]; exact peer_at (low_trans'' HL2.out nq.h) hb9 hcc hlk (j := 2) rfl
              have g3 : ∀ nq : Cls (Lows wr), nq.w.cell? ⟨bb, o + k * 10 + 3, none⟩ = some (.int .i64 z.e.n) := fun nq => by rw [hz]; exact peer_at (low_trans'' HL2.out nq.h) hb9 hcc hlk (j := 3) rfl
              have Hx := Lib.hid hx
              have Hz := Lib.hid hz
              have EQ := fun W => eqEnd x.e z.e W
              clear hcc hb9 hx hz
              cases hs : sameE x.e z.e with
              | true =>
                rw [hs] at EQ
                clear hs
                go_wp2_with fail
                refine Cls.region (Lows wr) (by kernel_rfl) (by kernel_rfl) (low_drewN (Below.refl _ _) 1) ?_
                (try dsimp only [List.append])
                repeat (go_big_quiet_step (first | fail))
                refine wpQuiet_nil ?_
                intro n9
                have hk9 := n9.h
                generalize n9.w = w9 at hk9 ⊢
                clear hne n9 EQ f0 f1 f2 f3 g0 g1 g2 g3
                go_wp2_with fail
                refine (AW.out _).mono ?_; rintro e w1 ⟨rfl, hb1⟩
                have HF := Lib.hid (low_trans HL2.out (low_trans hk9 hb1))
                clear hb1
                go_wp2_with fail
                go_ret
                exact ⟨rfl, HF.out⟩
              | false =>
                have HE2 : Hid (∀ p, p < k + 1 → (l[p]!).e ≠ (l[i]!).e) := Lib.hid (fun p hp e => by
                  by_cases c : p = k
                  · subst c
                    rw [← Hz.out, ← Hx.out] at e
                    rw [(sameE_iff x.e z.e).2 e.symm] at hs
                    cases hs
                  · exact HE.out p (by omega) e)
                rw [hs] at EQ
                clear hs
                go_wp2_with fail
                refine Cls.region (Lows wr) (by kernel_rfl) (by kernel_rfl) (low_drewN (Below.refl _ _) 1) ?_
                (try dsimp only [List.append])
                repeat (go_big_quiet_step (first | fail))
                refine wpQuiet_nil ?_
                intro n9
                have hk9 := n9.h
                generalize n9.w = w9 at hk9 ⊢
                clear hne n9 EQ f0 f1 f2 f3 g0 g1 g2 g3
                go_wp2_with fail
                go_roundw
                case rel => exact ⟨k + 1, by go_num, by omega, HE2, Lib.hid (low_trans HL2.out hk9)⟩
                case measure => simp [intOf]; omega
            · have hkiz : ¬ (k : Int) < (i : Int) := by omega
              have HD2 : Hid (∀ p q, p < q → q < i + 1 → (l[p]!).e ≠ (l[q]!).e) := Lib.hid (fun p q hp hq => by
                by_cases c : q = i
                · subst c; exact HE.out p (by omega)
                · exact HD.out p q hp (by omega))
              go_wp2_with fail
              go_roundw
              case rel => exact ⟨i + 1, by go_num, by omega, HD2, HL2⟩
              case measure => simp [intOf]; omega
        · have hliz : ¬ (i : Int) < (l.length : Int) := by omega
          have HU : Hid (Unlike l) := Lib.hid (List.pairwise_iff_getElem.2 fun p q hp hq hpq => by
            have h := HD.out p q hpq (by omega)
            rw [getElem!_pos l p hp, getElem!_pos l q hq] at h
            exact h)
          have hbl := best_le l (l.length - 1)
          have HM := Lib.hid (fun (j : Nat) (hj : j < l.length) => pick_most (l := l) hj)
          have HY := Lib.hid (fun (j : Nat) (hj : j < l.length) => pick_young (l := l) hj)
          have HT := Lib.hid (fun (k : Nat) => pick_turned (turn_perm l k) HU.out (by omega : 0 < l.length))
          have hpr : pickR l = (bestR l (l.length - 1) : Int) := by unfold pickR; rw [if_neg (by omega)]
          generalize bestR l (l.length - 1) = g at *
          have hgl : g < l.length := by omega
          have hglz : (g : Int) < (l.length : Int) := by omega
          have hgd1 : decide ((g : Int) < 0) = false := decide_eq_false (by omega)
          have hgd2 : decide ((l.length : Int) ≤ (g : Int)) = false := decide_eq_false (by omega)
          have hgd3 : decide (l.length ≤ g) = false := decide_eq_false (by omega)
          have hgd4 : ¬ (l.length : Int) ≤ (g : Int) := by omega
          rw [hpr] at KP
          clear HD hi hli hpr hbl
          go_wp2_with fail
          refine (KP.out _ HL.out).mono ?_; rintro e w1 ⟨rfl, hb1⟩
          have HL1 : Hid (Lows w w1) := Lib.hid (low_trans HL.out hb1)
          clear hb1 KP
          go_wp2_with fail
          go_loopw [8, 9] (fun vi _ wr => ∃ i : Nat, vi = .int .i64 i ∧ i ≤ l.length ∧ Hid (Lows w wr)) (fun vi _ _ => l.length - (intOf vi).toNat)
          case atStart => exact ⟨0, rfl, Nat.zero_le _, HL1⟩
          case round =>
            obtain ⟨j, rfl, hj, HLJ⟩ := hrel
            clear HL1 HL
            by_cases hlj : j < l.length
            · have hljz : (j : Int) < (l.length : Int) := by omega
              obtain ⟨bb, o, rfl, hb9, hcc⟩ := HC.out (by omega)
              obtain ⟨x, hx⟩ : ∃ x, x = l[j]! := ⟨_, rfl⟩
              obtain ⟨z, hz⟩ : ∃ x, x = l[g]! := ⟨_, rfl⟩
              have hxo : x.ok := by rw [hx, getElem!_pos l j hlj]; exact HOK.out _ (List.getElem_mem _)
              have hzo : z.ok := by rw [hz, getElem!_pos l g hgl]; exact HOK.out _ (List.getElem_mem _)
              have hmm := HM.out j hlj
              have hyy := HY.out j hlj
              rw [← hx, ← hz] at hmm hyy
              have G1 : Hid (∀ X, Lows wr X → Calls Try.prog 12 #[.agg #[.bool x.e.a.v6, .int .u64 x.e.a.hi, .int .u64 x.e.a.lo]] X fun e w' => e = .returned (.agg #[.bool (groupN x.e.a).a.v6, .int .u64 (groupN x.e.a).a.hi, .int .u64 (groupN x.e.a).a.lo, .int .i64 (groupN x.e.a).n]) ∧ Lows wr w') := Lib.hid fun X h => (rgroupOf_any x.e.a X hxo.1.1).mono fun e w' ⟨he, hb⟩ => ⟨he, low_trans h hb⟩
              have G2 : Hid (∀ X, Lows wr X → Calls Try.prog 12 #[.agg #[.bool z.e.a.v6, .int .u64 z.e.a.hi, .int .u64 z.e.a.lo]] X fun e w' => e = .returned (.agg #[.bool (groupN z.e.a).a.v6, .int .u64 (groupN z.e.a).a.hi, .int .u64 (groupN z.e.a).a.lo, .int .i64 (groupN z.e.a).n]) ∧ Lows wr w') := Lib.hid fun X h => (rgroupOf_any z.e.a X hzo.1.1).mono fun e w' ⟨he, hb⟩ => ⟨he, low_trans h hb⟩
              have EQ := fun W => eqNet (gR x) (gR z) W
              have KCJ := Lib.hid (fun (W : World) (hW : Lows w W) => KC.out W (j : Int) hW)
              have KCG := Lib.hid (fun (W : World) (hW : Lows w W) => KC.out W (g : Int) hW)
              rw [crowd_at hlj, ← hx] at KCJ
              rw [crowd_at hgl, ← hz] at KCG
              have KY := Lib.hid (fun W => younger_any x z W hxo hzo)
              have hne : Nonempty (Cls (Lows wr)) := ⟨⟨_, Lows.self _⟩⟩
              have f0 : ∀ nq : Cls (Lows wr), nq.w.cell? ⟨bb, o + j * 10, none⟩ = some (.bool x.e.a.v6) := fun nq => by rw [hx]; exact peer_at (low_trans'' HLJ.out nq.h) hb9 hcc hlj (j := 0) rfl
              have f1 : ∀ nq : Cls (Lows wr), nq.w.cell? ⟨bb, o + j * 10 + 1, none⟩ = some (.int .u64 x.e.a.hi) := fun nq => by rw [hx]; exact peer_at (low_trans'' HLJ.out nq.h) hb9 hcc hlj (j := 1) rfl
              have f2 : ∀ nq : Cls (Lows wr), nq.w.cell? ⟨bb, o + j * 10 + 2, none⟩ = some (.int .u64 x.e.a.lo) := fun nq => by rw [hx]; exact peer_at (low_trans'' HLJ.out nq.h) hb9 hcc hlj (j := 2) rfl
              have g0 : ∀ nq : Cls (Lows wr), nq.w.cell? ⟨bb, o + g * 10, none⟩ = some (.bool z.e.a.v6) := fun nq => by rw [hz]; exact peer_at (low_trans'' HLJ.out nq.h) hb9 hcc hgl (j := 0) rfl
              have g1 : ∀ nq : Cls (Lows wr), nq.w.cell? ⟨bb, o + g * 10 + 1, none⟩ = some (.int .u64 z.e.a.hi) := fun nq => by rw [hz]; exact peer_at (low_trans'' HLJ.out nq.h) hb9 hcc hgl (j := 1) rfl
              have g2 : ∀ nq : Cls (Lows wr), nq.w.cell? ⟨bb, o + g * 10 + 2, none⟩ = some (.int .u64 z.e.a.lo) := fun nq => by rw [hz]; exact peer_at (low_trans'' HLJ.out nq.h) hb9 hcc hgl (j := 2) rfl
              have HX9 : Hid (∀ W, Lows wr W → W.cell? ⟨bb, o + j * 10, none⟩ = some (.bool x.e.a.v6) ∧ W.cell? ⟨bb, o + j * 10 + 1, none⟩ = some (.int .u64 x.e.a.hi) ∧ W.cell? ⟨bb, o + j * 10 + 2, none⟩ = some (.int .u64 x.e.a.lo) ∧ W.cell? ⟨bb, o + j * 10 + 3, none⟩ = some (.int .i64 x.e.n) ∧ W.cell? ⟨bb, o + j * 10 + 4, none⟩ = some (.bool x.i) ∧ W.cell? ⟨bb, o + j * 10 + 5, none⟩ = some (.int .i64 x.t) ∧ W.cell? ⟨bb, o + j * 10 + 6, none⟩ = some (.int .i64 x.c.p) ∧ W.cell? ⟨bb, o + j * 10 + 7, none⟩ = some (.int .i64 x.c.a) ∧ W.cell? ⟨bb, o + j * 10 + 8, none⟩ = some (.int .i64 x.g) ∧ W.cell? ⟨bb, o + j * 10 + 9, none⟩ = some (.int .i64 x.k)) := Lib.hid fun W h => ⟨by rw [hx]; exact peer_at (low_trans'' HLJ.out h) hb9 hcc hlj (j := 0) rfl, by rw [hx]; exact peer_at (low_trans'' HLJ.out h) hb9 hcc hlj (j := 1) rfl, by rw [hx]; exact peer_at (low_trans'' HLJ.out h) hb9 hcc hlj (j := 2) rfl, by rw [hx]; exact peer_at (low_trans'' HLJ.out h) hb9 hcc hlj (j := 3) rfl, by rw [hx]; exact peer_at (low_trans'' HLJ.out h) hb9 hcc hlj (j := 4) rfl, by rw [hx]; exact peer_at (low_trans'' HLJ.out h) hb9 hcc hlj (j := 5) rfl, by rw [hx]; exact peer_at (low_trans'' HLJ.out h) hb9 hcc hlj (j := 6) rfl, by rw [hx]; exact peer_at (low_trans'' HLJ.out h) hb9 hcc hlj (j := 7) rfl, by rw [hx]; exact peer_at (low_trans'' HLJ.out h) hb9 hcc hlj (j := 8) rfl, by rw [hx]; exact peer_at (low_trans'' HLJ.out h) hb9 hcc hlj (j := 9) rfl⟩
              have HZ9 : Hid (∀ W, Lows wr W → W.cell? ⟨bb, o + g * 10, none⟩ = some (.bool z.e.a.v6) ∧ W.cell? ⟨bb, o + g * 10 + 1, none⟩ = some (.int .u64 z.e.a.hi) ∧ W.cell? ⟨bb, o + g * 10 + 2, none⟩ = some (.int .u64 z.e.a.lo) ∧ W.cell? ⟨bb, o + g * 10 + 3, none⟩ = some (.int .i64 z.e.n) ∧ W.cell? ⟨bb, o + g * 10 + 4, none⟩ = some (.bool z.i) ∧ W.cell? ⟨bb, o + g * 10 + 5, none⟩ = some (.int .i64 z.t) ∧ W.cell? ⟨bb, o + g * 10 + 6, none⟩ = some (.int .i64 z.c.p) ∧ W.cell? ⟨bb, o + g * 10 + 7, none⟩ = some (.int .i64 z.c.a) ∧ W.cell? ⟨bb, o + g * 10 + 8, none⟩ = some (.int .i64 z.g) ∧ W.cell? ⟨bb, o + g * 10 + 9, none⟩ = some (.int .i64 z.k)) := Lib.hid fun W h => ⟨by rw [hz]; exact peer_at (low_trans'' HLJ.out h) hb9 hcc hgl (j := 0) rfl, by rw [hz]; exact peer_at (low_trans'' HLJ.out h) hb9 hcc hgl (j := 1) rfl, by rw [hz]; exact peer_at (low_trans'' HLJ.out h) hb9 hcc hgl (j := 2) rfl, by rw [hz]; exact peer_at (low_trans'' HLJ.out h) hb9 hcc hgl (j := 3) rfl, by rw [hz]; exact peer_at (low_trans'' HLJ.out h) hb9 hcc hgl (j := 4) rfl, by rw [hz]; exact peer_at (low_trans'' HLJ.out h) hb9 hcc hgl (j := 5) rfl, by rw [hz]; exact peer_at (low_trans'' HLJ.out h) hb9 hcc hgl (j := 6) rfl, by rw [hz]; exact peer_at (low_trans'' HLJ.out h) hb9 hcc hgl (j := 7) rfl, by rw [hz]; exact peer_at (low_trans'' HLJ.out h) hb9 hcc hgl (j := 8) rfl, by rw [hz]; exact peer_at (low_trans'' HLJ.out h) hb9 hcc hgl (j := 9) rfl⟩
              unfold gR at G1 G2
              generalize cntR l (gR x) = q1 at *
              generalize cntR l (gR z) = q2 at *
              have hmz : ¬ (q2 : Int) < (q1 : Int) := by omega
              have hmd : decide ((q2 : Int) < (q1 : Int)) = false := decide_eq_false hmz
              have hmn : decide (q2 < q1) = false := decide_eq_false (by omega)
              clear hcc hb9 hx hz hxo hzo
              unfold gR at EQ hyy
              generalize groupN x.e.a = gx at *
              generalize groupN z.e.a = gz at *
              cases hs : sameN gx gz with
              | true =>
                rw [hs] at EQ
                rw [hyy hs] at KY
                clear hs hyy
                go_wp2_with fail
                refine Cls.region (Lows wr) (by kernel_rfl) (by kernel_rfl) (low_drewN (Below.refl _ _) 1) ?_
                (try dsimp only [List.append])
                repeat (go_big_quiet_step (first | fail | (with_reducible exact Cls.call (G1.out _ (Cls.h _))) | (with_reducible exact Cls.call (G2.out _ (Cls.h _)))))
                refine wpQuiet_nil ?_
                intro n9
                have hk9 := n9.h
                generalize n9.w = w9 at hk9 ⊢
                clear hne n9 EQ G1 G2 f0 f1 f2 g0 g1 g2
                have HLW : Hid (Lows w w9) := Lib.hid (low_trans HLJ.out hk9)
                have C1 : Hid (∀ X, Lows w9 X → Calls Try.prog 6 #[.slice (some ⟨bb, o, none⟩) l.length c, .int .i64 (j : Int)] X fun e w' => e = .returned (.int .i64 (q1 : Int)) ∧ Lows w9 w') := Lib.hid fun X h => (KCJ.out X (low_trans HLW.out h)).mono fun e w' ⟨he, hb⟩ => ⟨he, low_trans h hb⟩
                have C2 : Hid (∀ X, Lows w9 X → Calls Try.prog 6 #[.slice (some ⟨bb, o, none⟩) l.length c, .int .i64 (g : Int)] X fun e w' => e = .returned (.int .i64 (q2 : Int)) ∧ Lows w9 w') := Lib.hid fun X h => (KCG.out X (low_trans HLW.out h)).mono fun e w' ⟨he, hb⟩ => ⟨he, low_trans h hb⟩
                have hne : Nonempty (Cls (Lows w9)) := ⟨⟨_, Lows.self _⟩⟩
                have f0 : ∀ nq : Cls (Lows w9), nq.w.cell? ⟨bb, o + j * 10, none⟩ = some (.bool x.e.a.v6) := fun nq => (HX9.out nq.w (low_trans hk9 nq.h)).1
                have f1 : ∀ nq : Cls (Lows w9), nq.w.cell? ⟨bb, o + j * 10 + 1, none⟩ = some (.int .u64 x.e.a.hi) := fun nq => (HX9.out nq.w (low_trans hk9 nq.h)).2.1
                have f2 : ∀ nq : Cls (Lows w9), nq.w.cell? ⟨bb, o + j * 10 + 2, none⟩ = some (.int .u64 x.e.a.lo) := fun nq => (HX9.out nq.w (low_trans hk9 nq.h)).2.2.1
                have f3 : ∀ nq : Cls (Lows w9), nq.w.cell? ⟨bb, o + j * 10 + 3, none⟩ = some (.int .i64 x.e.n) := fun nq => (HX9.out nq.w (low_trans hk9 nq.h)).2.2.2.1
                have f4 : ∀ nq : Cls (Lows w9), nq.w.cell? ⟨bb, o + j * 10 + 4, none⟩ = some (.bool x.i) := fun nq => (HX9.out nq.w (low_trans hk9 nq.h)).2.2.2.2.1
                have f5 : ∀ nq : Cls (Lows w9), nq.w.cell? ⟨bb, o + j * 10 + 5, none⟩ = some (.int .i64 x.t) := fun nq => (HX9.out nq.w (low_trans hk9 nq.h)).2.2.2.2.2.1
                have f6 : ∀ nq : Cls (Lows w9), nq.w.cell? ⟨bb, o + j * 10 + 6, none⟩ = some (.int .i64 x.c.p) := fun nq => (HX9.out nq.w (low_trans hk9 nq.h)).2.2.2.2.2.2.1
                have f7 : ∀ nq : Cls (Lows w9), nq.w.cell? ⟨bb, o + j * 10 + 7, none⟩ = some (.int .i64 x.c.a) := fun nq => (HX9.out nq.w (low_trans hk9 nq.h)).2.2.2.2.2.2.2.1
                have f8 : ∀ nq : Cls (Lows w9), nq.w.cell? ⟨bb, o + j * 10 + 8, none⟩ = some (.int .i64 x.g) := fun nq => (HX9.out nq.w (low_trans hk9 nq.h)).2.2.2.2.2.2.2.2.1
                have f9 : ∀ nq : Cls (Lows w9), nq.w.cell? ⟨bb, o + j * 10 + 9, none⟩ = some (.int .i64 x.k) := fun nq => (HX9.out nq.w (low_trans hk9 nq.h)).2.2.2.2.2.2.2.2.2
                have g0 : ∀ nq : Cls (Lows w9), nq.w.cell? ⟨bb, o + g * 10, none⟩ = some (.bool z.e.a.v6) := fun nq => (HZ9.out nq.w (low_trans hk9 nq.h)).1
                have g1 : ∀ nq : Cls (Lows w9), nq.w.cell? ⟨bb, o + g * 10 + 1, none⟩ = some (.int .u64 z.e.a.hi) := fun nq => (HZ9.out nq.w (low_trans hk9 nq.h)).2.1
                have g2 : ∀ nq : Cls (Lows w9), nq.w.cell? ⟨bb, o + g * 10 + 2, none⟩ = some (.int .u64 z.e.a.lo) := fun nq => (HZ9.out nq.w (low_trans hk9 nq.h)).2.2.1
                have g3 : ∀ nq : Cls (Lows w9), nq.w.cell? ⟨bb, o + g * 10 + 3, none⟩ = some (.int .i64 z.e.n) := fun nq => (HZ9.out nq.w (low_trans hk9 nq.h)).2.2.2.1
                have g4 : ∀ nq : Cls (Lows w9), nq.w.cell? ⟨bb, o + g * 10 + 4, none⟩ = some (.bool z.i) := fun nq => (HZ9.out nq.w (low_trans hk9 nq.h)).2.2.2.2.1
                have g5 : ∀ nq : Cls (Lows w9), nq.w.cell? ⟨bb, o + g * 10 + 5, none⟩ = some (.int .i64 z.t) := fun nq => (HZ9.out nq.w (low_trans hk9 nq.h)).2.2.2.2.2.1
                have g6 : ∀ nq : Cls (Lows w9), nq.w.cell? ⟨bb, o + g * 10 + 6, none⟩ = some (.int .i64 z.c.p) := fun nq => (HZ9.out nq.w (low_trans hk9 nq.h)).2.2.2.2.2.2.1
                have g7 : ∀ nq : Cls (Lows w9), nq.w.cell? ⟨bb, o + g * 10 + 7, none⟩ = some (.int .i64 z.c.a) := fun nq => (HZ9.out nq.w (low_trans hk9 nq.h)).2.2.2.2.2.2.2.1
                have g8 : ∀ nq : Cls (Lows w9), nq.w.cell? ⟨bb, o + g * 10 + 8, none⟩ = some (.int .i64 z.g) := fun nq => (HZ9.out nq.w (low_trans hk9 nq.h)).2.2.2.2.2.2.2.2.1
                have g9 : ∀ nq : Cls (Lows w9), nq.w.cell? ⟨bb, o + g * 10 + 9, none⟩ = some (.int .i64 z.k) := fun nq => (HZ9.out nq.w (low_trans hk9 nq.h)).2.2.2.2.2.2.2.2.2
                go_wp2_with fail
                refine Cls.region (Lows w9) (by kernel_rfl) (by kernel_rfl) (low_drewN (Below.refl _ _) 1) ?_
                (try dsimp only [List.append])
                repeat (go_big_quiet_step (first | fail | (with_reducible exact Cls.call (C1.out _ (Cls.h _))) | (with_reducible exact Cls.call (C2.out _ (Cls.h _))) | (with_reducible exact Cls.call ((lows_call KY).out _ (Cls.h _)))))
                refine wpQuiet_nil ?_
                intro n9
                have hk10 := n9.h
                generalize n9.w = w10 at hk10 ⊢
                clear hne n9 f0 f1 f2 f3 f4 f5 f6 f7 f8 f9 g0 g1 g2 g3 g4 g5 g6 g7 g8 g9
                go_wp2_with fail
                go_roundw
                case rel => exact ⟨j + 1, by go_num, by omega, Lib.hid (low_trans HLW.out hk10)⟩
                case measure => simp [intOf]; omega
              | false =>
                rw [hs] at EQ
                clear hs hyy
                go_wp2_with fail
                refine Cls.region (Lows wr) (by kernel_rfl) (by kernel_rfl) (low_drewN (Below.refl _ _) 1) ?_
                (try dsimp only [List.append])
                repeat (go_big_quiet_step (first | fail | (with_reducible exact Cls.call (G1.out _ (Cls.h _))) | (with_reducible exact Cls.call (G2.out _ (Cls.h _)))))
                refine wpQuiet_nil ?_
                intro n9
                have hk9 := n9.h
                generalize n9.w = w9 at hk9 ⊢
                clear hne n9 EQ G1 G2 f0 f1 f2 g0 g1 g2
                have HLW : Hid (Lows w w9) := Lib.hid (low_trans HLJ.out hk9)
                have C1 : Hid (∀ X, Lows w9 X → Calls Try.prog 6 #[.slice (some ⟨bb, o, none⟩) l.length c, .int .i64 (j : Int)] X fun e w' => e = .returned (.int .i64 (q1 : Int)) ∧ Lows w9 w') := Lib.hid fun X h => (KCJ.out X (low_trans HLW.out h)).mono fun e w' ⟨he, hb⟩ => ⟨he, low_trans h hb⟩
                have C2 : Hid (∀ X, Lows w9 X → Calls Try.prog 6 #[.slice (some ⟨bb, o, none⟩) l.length c, .int .i64 (g : Int)] X fun e w' => e = .returned (.int .i64 (q2 : Int)) ∧ Lows w9 w') := Lib.hid fun X h => (KCG.out X (low_trans HLW.out h)).mono fun e w' ⟨he, hb⟩ => ⟨he, low_trans h hb⟩
                have hne : Nonempty (Cls (Lows w9)) := ⟨⟨_, Lows.self _⟩⟩
                have f0 : ∀ nq : Cls (Lows w9), nq.w.cell? ⟨bb, o + j * 10, none⟩ = some (.bool x.e.a.v6) := fun nq => (HX9.out nq.w (low_trans hk9 nq.h)).1
                have f1 : ∀ nq : Cls (Lows w9), nq.w.cell? ⟨bb, o + j * 10 + 1, none⟩ = some (.int .u64 x.e.a.hi) := fun nq => (HX9.out nq.w (low_trans hk9 nq.h)).2.1
                have f2 : ∀ nq : Cls (Lows w9), nq.w.cell? ⟨bb, o + j * 10 + 2, none⟩ = some (.int .u64 x.e.a.lo) := fun nq => (HX9.out nq.w (low_trans hk9 nq.h)).2.2.1
                have f3 : ∀ nq : Cls (Lows w9), nq.w.cell? ⟨bb, o + j * 10 + 3, none⟩ = some (.int .i64 x.e.n) := fun nq => (HX9.out nq.w (low_trans hk9 nq.h)).2.2.2.1
                have f4 : ∀ nq : Cls (Lows w9), nq.w.cell? ⟨bb, o + j * 10 + 4, none⟩ = some (.bool x.i) := fun nq => (HX9.out nq.w (low_trans hk9 nq.h)).2.2.2.2.1
                have f5 : ∀ nq : Cls (Lows w9), nq.w.cell? ⟨bb, o + j * 10 + 5, none⟩ = some (.int .i64 x.t) := fun nq => (HX9.out nq.w (low_trans hk9 nq.h)).2.2.2.2.2.1
                have f6 : ∀ nq : Cls (Lows w9), nq.w.cell? ⟨bb, o + j * 10 + 6, none⟩ = some (.int .i64 x.c.p) := fun nq => (HX9.out nq.w (low_trans hk9 nq.h)).2.2.2.2.2.2.1
                have f7 : ∀ nq : Cls (Lows w9), nq.w.cell? ⟨bb, o + j * 10 + 7, none⟩ = some (.int .i64 x.c.a) := fun nq => (HX9.out nq.w (low_trans hk9 nq.h)).2.2.2.2.2.2.2.1
                have f8 : ∀ nq : Cls (Lows w9), nq.w.cell? ⟨bb, o + j * 10 + 8, none⟩ = some (.int .i64 x.g) := fun nq => (HX9.out nq.w (low_trans hk9 nq.h)).2.2.2.2.2.2.2.2.1
                have f9 : ∀ nq : Cls (Lows w9), nq.w.cell? ⟨bb, o + j * 10 + 9, none⟩ = some (.int .i64 x.k) := fun nq => (HX9.out nq.w (low_trans hk9 nq.h)).2.2.2.2.2.2.2.2.2
                have g0 : ∀ nq : Cls (Lows w9), nq.w.cell? ⟨bb, o + g * 10, none⟩ = some (.bool z.e.a.v6) := fun nq => (HZ9.out nq.w (low_trans hk9 nq.h)).1
                have g1 : ∀ nq : Cls (Lows w9), nq.w.cell? ⟨bb, o + g * 10 + 1, none⟩ = some (.int .u64 z.e.a.hi) := fun nq => (HZ9.out nq.w (low_trans hk9 nq.h)).2.1
                have g2 : ∀ nq : Cls (Lows w9), nq.w.cell? ⟨bb, o + g * 10 + 2, none⟩ = some (.int .u64 z.e.a.lo) := fun nq => (HZ9.out nq.w (low_trans hk9 nq.h)).2.2.1
                have g3 : ∀ nq : Cls (Lows w9), nq.w.cell? ⟨bb, o + g * 10 + 3, none⟩ = some (.int .i64 z.e.n) := fun nq => (HZ9.out nq.w (low_trans hk9 nq.h)).2.2.2.1
                have g4 : ∀ nq : Cls (Lows w9), nq.w.cell? ⟨bb, o + g * 10 + 4, none⟩ = some (.bool z.i) := fun nq => (HZ9.out nq.w (low_trans hk9 nq.h)).2.2.2.2.1
                have g5 : ∀ nq : Cls (Lows w9), nq.w.cell? ⟨bb, o + g * 10 + 5, none⟩ = some (.int .i64 z.t) := fun nq => (HZ9.out nq.w (low_trans hk9 nq.h)).2.2.2.2.2.1
                have g6 : ∀ nq : Cls (Lows w9), nq.w.cell? ⟨bb, o + g * 10 + 6, none⟩ = some (.int .i64 z.c.p) := fun nq => (HZ9.out nq.w (low_trans hk9 nq.h)).2.2.2.2.2.2.1
                have g7 : ∀ nq : Cls (Lows w9), nq.w.cell? ⟨bb, o + g * 10 + 7, none⟩ = some (.int .i64 z.c.a) := fun nq => (HZ9.out nq.w (low_trans hk9 nq.h)).2.2.2.2.2.2.2.1
                have g8 : ∀ nq : Cls (Lows w9), nq.w.cell? ⟨bb, o + g * 10 + 8, none⟩ = some (.int .i64 z.g) := fun nq => (HZ9.out nq.w (low_trans hk9 nq.h)).2.2.2.2.2.2.2.2.1
                have g9 : ∀ nq : Cls (Lows w9), nq.w.cell? ⟨bb, o + g * 10 + 9, none⟩ = some (.int .i64 z.k) := fun nq => (HZ9.out nq.w (low_trans hk9 nq.h)).2.2.2.2.2.2.2.2.2
                go_wp2_with fail
                refine Cls.region (Lows w9) (by kernel_rfl) (by kernel_rfl) (low_drewN (Below.refl _ _) 1) ?_
                (try dsimp only [List.append])
                repeat (go_big_quiet_step (first | fail | (with_reducible exact Cls.call (C1.out _ (Cls.h _))) | (with_reducible exact Cls.call (C2.out _ (Cls.h _))) | (with_reducible exact Cls.call ((lows_call KY).out _ (Cls.h _)))))
                refine wpQuiet_nil ?_
                intro n9
                have hk10 := n9.h
                generalize n9.w = w10 at hk10 ⊢
                clear hne n9 f0 f1 f2 f3 f4 f5 f6 f7 f8 f9 g0 g1 g2 g3 g4 g5 g6 g7 g8 g9
                go_wp2_with fail
                go_roundw
                case rel => exact ⟨j + 1, by go_num, by omega, Lib.hid (low_trans HLW.out hk10)⟩
                case measure => simp [intOf]; omega
            · have hljz : ¬ (j : Int) < (l.length : Int) := by omega
              have KB := Lib.hid (fun W => around_any a l.length W hl2 hl1 HA.out)
              clear HM HY KC hj hlj
              go_wp2_with fail
              refine (KB.out _).mono ?_; rintro e w1 ⟨k, rfl, hkl, rfl⟩
              clear KB
              obtain ⟨bb, o, rfl, hb9, hcc⟩ := HC.out (by omega)
              have hkz : (k : Int) ≤ (l.length : Int) := by omega
              have hkc : (k : Int) ≤ (c : Int) := by omega
              have hkne : ¬ (c = k) := by omega
              have hkne2 : ¬ (k = c) := by omega
              have hw1 : w.heap.size ≤ wr.heap.size := HLJ.out.size
              have PN : Hid (∀ W, Lows w W → Peers W (.slice (some ⟨bb, o, none⟩) l.length c) l) := Lib.hid fun W h => PW.out.below h
              have HA1 : Hid (∀ W g, OwnP w.heap.size W (.slice (some ⟨g, 0, none⟩) 0 0) [] → Lows w W → ∃ v1 w1, (Builtin.append_ #[22, 22] 22 #[.slice (some ⟨g, 0, none⟩) 0 0, .slice (some ⟨bb, o + k * 10, none⟩) (l.length - k) (c - k)]).run Try.prog W = .ok v1 w1 ∧ (OwnP w.heap.size w1 v1 (l.drop k) ∧ Lows w w1)) := Lib.hid fun W g ho hW => by
                obtain ⟨v1, w1, h1, h2, h3⟩ := append_peers ho ((PN.out W hW).rest (i := k) (by omega)) (by simp; omega) hW.size
                exact ⟨v1, w1, h1, h2, hW.trans h3⟩
              have HA2 : Hid (∀ W v, OwnP w.heap.size W v (l.drop k) → Lows w W → ∃ v1 w1, (Builtin.append_ #[22, 22] 22 #[v, .slice (some ⟨bb, o, none⟩) k c]).run Try.prog W = .ok v1 w1 ∧ (Peers w1 v1 (turnR l k) ∧ Lows w w1)) := Lib.hid fun W v ho hW => by
                obtain ⟨v1, w1, h1, h2, h3⟩ := append_peers ho ((PN.out W hW).part (i := k) (by omega)) (by simp; omega) hW.size
                exact ⟨v1, w1, h1, (recs_own encP_len (by decide) h2).1, hW.trans h3⟩
              have HTL : Hid ((turnR l k).length = l.length) := Lib.hid (turn_length l k)
              have HOT : Hid (∀ x ∈ turnR l k, x.ok) := Lib.hid fun x hx => HOK.out x ((turn_perm l k).mem_iff.1 hx)
              have HTK := Lib.hid (HT.out k)
              clear HT HU
              go_wp2_with fail
              go_region_law (first
                | (refine step_append_ex rfl (.tmp 101) (.tmp 104) _ _ rfl rfl _ _ (by simp [Act.eval]) (by first | (simp [Act.eval]; done) | (simp [Act.eval]; omega)) (HA1.out _ _ (World.ownsRow.drew (ownP_lit wr hw1)) (low_drewN (Below.alloc HLJ.out hw1 _) 1)) ?_; rintro v1 w2 ⟨ho1, hl1'⟩)
                | (refine step_append_ex rfl (.tmp 105) (.tmp 108) _ _ rfl rfl _ _ (by simp [Act.eval]) (by first | (simp [Act.eval]; done) | (simp [Act.eval]; omega)) (HA2.out _ _ ho1 hl1') ?_; rintro v2 w3 ⟨ho2, hl2'⟩))
              have L3 := Lib.hid hl2'
              have PT := Lib.hid ho2
              clear ho1 hl1' hl2' HLJ HA1 HA2
              generalize turnR l k = T at *
              have htl : T.length ≤ 1000000 := by rw [HTL.out]; omega
              have KT := Lib.hid (pick_any v2 T w3 ho2 HOT.out htl)
              obtain ⟨A2, c2, rfl, hc2, _, hcell2⟩ := ho2
              have HC2 := Lib.hid hcell2
              have hbt := best_le T (T.length - 1)
              have hpt : pickR T = (bestR T (T.length - 1) : Int) := by unfold pickR; rw [if_neg (by rw [HTL.out]; omega)]
              rw [hpt] at KT
              generalize bestR T (T.length - 1) = f at *
              have hfl : f < T.length := by have := HTL.out; omega
              have hflz : (f : Int) < (T.length : Int) := by omega
              have hfl2 : (f : Int) < (l.length : Int) := by have := HTL.out; omega
              clear hcell2 hw1 hpt hbt
              go_wp2_with fail
              (try simp [Act.put])
              (try go_wp2_with fail)
              refine KT.out.mono ?_; rintro e w4 ⟨rfl, hb4⟩
              have L4 : Hid (Lows w3 w4) := Lib.hid hb4
              have L5 : Hid (Lows w w4) := Lib.hid (low_trans L3.out hb4)
              clear hb4 KT
              obtain ⟨tb, tf, rfl, htb, htc⟩ := HC2.out (by omega)
              obtain ⟨p, hp⟩ : ∃ p, p = l[g]! := ⟨_, rfl⟩
              have hpt : p = T[f]! := by rw [hp]; exact HTK.out.symm
              have NQ := fun W => eqPeer_self p W
              have hne : Nonempty (Cls (Lows w4)) := ⟨⟨_, Lows.self _⟩⟩
              have d1 : decide ((f : Int) < 0) = false := decide_eq_false (by omega)
              have d2 : decide ((g : Int) < 0) = false := decide_eq_false (by omega)
              have d3 : decide ((l.length : Int) ≤ (g : Int)) = false := decide_eq_false (by omega)
              have d4 : decide ((T.length : Int) ≤ (f : Int)) = false := decide_eq_false (by omega)
              have d5 : decide ((0 : Int) ≤ (f : Int)) = true := decide_eq_true (by omega)
              have d6 : decide ((f : Int) < (T.length : Int)) = true := decide_eq_true hflz
              have d7 : decide (f < T.length) = true := decide_eq_true hfl
              have f0 : ∀ nq : Cls (Lows w4), nq.w.cell? ⟨bb, o + g * 10, none⟩ = some (.bool p.e.a.v6) := fun nq => by rw [hp]; exact peer_at (low_trans'' L5.out nq.h) hb9 hcc hgl (j := 0) rfl
              have f1 : ∀ nq : Cls (Lows w4), nq.w.cell? ⟨bb, o + g * 10 + 1, none⟩ = some (.int .u64 p.e.a.hi) := fun nq => by rw [hp]; exact peer_at (low_trans'' L5.out nq.h) hb9 hcc hgl (j := 1) rfl
              have f2 : ∀ nq : Cls (Lows w4), nq.w.cell? ⟨bb, o + g * 10 + 2, none⟩ = some (.int .u64 p.e.a.lo) := fun nq => by rw [hp]; exact peer_at (low_trans'' L5.out nq.h) hb9 hcc hgl (j := 2) rfl
              have f3 : ∀ nq : Cls (Lows w4), nq.w.cell? ⟨bb, o + g * 10 + 3, none⟩ = some (.int .i64 p.e.n) := fun nq => by rw [hp]; exact peer_at (low_trans'' L5.out nq.h) hb9 hcc hgl (j := 3) rfl
              have f4 : ∀ nq : Cls (Lows w4), nq.w.cell? ⟨bb, o + g * 10 + 4, none⟩ = some (.bool p.i) := fun nq => by rw [hp]; exact peer_at (low_trans'' L5.out nq.h) hb9 hcc hgl (j := 4) rfl
              have f5 : ∀ nq : Cls (Lows w4), nq.w.cell? ⟨bb, o + g * 10 + 5, none⟩ = some (.int .i64 p.t) := fun nq => by rw [hp]; exact peer_at (low_trans'' L5.out nq.h) hb9 hcc hgl (j := 5) rfl
              have f6 : ∀ nq : Cls (Lows w4), nq.w.cell? ⟨bb, o + g * 10 + 6, none⟩ = some (.int .i64 p.c.p) := fun nq => by rw [hp]; exact peer_at (low_trans'' L5.out nq.h) hb9 hcc hgl (j := 6) rfl
              have f7 : ∀ nq : Cls (Lows w4), nq.w.cell? ⟨bb, o + g * 10 + 7, none⟩ = some (.int .i64 p.c.a) := fun nq => by rw [hp]; exact peer_at (low_trans'' L5.out nq.h) hb9 hcc hgl (j := 7) rfl
              have f8 : ∀ nq : Cls (Lows w4), nq.w.cell? ⟨bb, o + g * 10 + 8, none⟩ = some (.int .i64 p.g) := fun nq => by rw [hp]; exact peer_at (low_trans'' L5.out nq.h) hb9 hcc hgl (j := 8) rfl
              have f9 : ∀ nq : Cls (Lows w4), nq.w.cell? ⟨bb, o + g * 10 + 9, none⟩ = some (.int .i64 p.k) := fun nq => by rw [hp]; exact peer_at (low_trans'' L5.out nq.h) hb9 hcc hgl (j := 9) rfl
              have e0 : ∀ nq : Cls (Lows w4), nq.w.cell? ⟨tb, tf + f * 10, none⟩ = some (.bool p.e.a.v6) := fun nq => by rw [hpt]; exact peer_at (low_trans'' L4.out nq.h) htb htc hfl (j := 0) rfl
              have e1 : ∀ nq : Cls (Lows w4), nq.w.cell? ⟨tb, tf + f * 10 + 1, none⟩ = some (.int .u64 p.e.a.hi) := fun nq => by rw [hpt]; exact peer_at (low_trans'' L4.out nq.h) htb htc hfl (j := 1) rfl
              have e2 : ∀ nq : Cls (Lows w4), nq.w.cell? ⟨tb, tf + f * 10 + 2, none⟩ = some (.int .u64 p.e.a.lo) := fun nq => by rw [hpt]; exact peer_at (low_trans'' L4.out nq.h) htb htc hfl (j := 2) rfl
              have e3 : ∀ nq : Cls (Lows w4), nq.w.cell? ⟨tb, tf + f * 10 + 3, none⟩ = some (.int .i64 p.e.n) := fun nq => by rw [hpt]; exact peer_at (low_trans'' L4.out nq.h) htb htc hfl (j := 3) rfl
              have e4 : ∀ nq : Cls (Lows w4), nq.w.cell? ⟨tb, tf + f * 10 + 4, none⟩ = some (.bool p.i) := fun nq => by rw [hpt]; exact peer_at (low_trans'' L4.out nq.h) htb htc hfl (j := 4) rfl
              have e5 : ∀ nq : Cls (Lows w4), nq.w.cell? ⟨tb, tf + f * 10 + 5, none⟩ = some (.int .i64 p.t) := fun nq => by rw [hpt]; exact peer_at (low_trans'' L4.out nq.h) htb htc hfl (j := 5) rfl
              have e6 : ∀ nq : Cls (Lows w4), nq.w.cell? ⟨tb, tf + f * 10 + 6, none⟩ = some (.int .i64 p.c.p) := fun nq => by rw [hpt]; exact peer_at (low_trans'' L4.out nq.h) htb htc hfl (j := 6) rfl
              have e7 : ∀ nq : Cls (Lows w4), nq.w.cell? ⟨tb, tf + f * 10 + 7, none⟩ = some (.int .i64 p.c.a) := fun nq => by rw [hpt]; exact peer_at (low_trans'' L4.out nq.h) htb htc hfl (j := 7) rfl
              have e8 : ∀ nq : Cls (Lows w4), nq.w.cell? ⟨tb, tf + f * 10 + 8, none⟩ = some (.int .i64 p.g) := fun nq => by rw [hpt]; exact peer_at (low_trans'' L4.out nq.h) htb htc hfl (j := 8) rfl
              have e9 : ∀ nq : Cls (Lows w4), nq.w.cell? ⟨tb, tf + f * 10 + 9, none⟩ = some (.int .i64 p.k) := fun nq => by rw [hpt]; exact peer_at (low_trans'' L4.out nq.h) htb htc hfl (j := 9) rfl
              clear hp hpt hb9 hcc htb htc
              go_wp2_with fail
              refine Cls.region (Lows w4) (by kernel_rfl) (by kernel_rfl) (low_drewN (Below.refl _ _) 1) ?_
              (try dsimp only [List.append])
              repeat (go_big_quiet_step (first | fail | (with_reducible exact Cls.call ((lows_call AW).out _ (Cls.h _)))))
              refine wpQuiet_nil ?_
              intro n9
              have hk9 := n9.h
              generalize n9.w = w9 at hk9 ⊢
              clear hne n9 NQ f0 f1 f2 f3 f4 f5 f6 f7 f8 f9 e0 e1 e2 e3 e4 e5 e6 e7 e8 e9
              go_wp2_with fail
              go_ret
              exact ⟨rfl, low_trans L5.out hk9⟩
namespace crowdGreatest
theorem contract (H : Type) (enc : TypeId × Value → H) (W : World) (base : Nat) (args : Array Value) (ds gs : List (DataW H)) (before : List MemPlace)
    (hval0 : ∀ (j : Nat) t v, Try.f4.params[j]? = some t → args[j]? = some v → Value.okWide Try.prog W .any base t v)
    (hW : DataW.Whole enc Try.prog Try.f4.params.toList Rows.crowdGreatestSpec.vars false W args.toList ds gs before) (hSh : W.ShapedOpen Try.prog) :
    Calls Try.prog 4 args W fun e W' => ∃ v, e = .returned v ∧ Rows.crowdGreatestSpec.post enc Try.prog Try.f4 false true false false W args v W' := by
  have hval : ∀ (j : Nat) t v, Try.f4.params[j]? = some t → args[j]? = some v → Value.okWide Try.prog W .any base t v := hval0
  have hW' := hW
  obtain ⟨p, q, hA0, hV, _, _, _⟩ := hW
  have hA : DataW.TrodAll enc Try.prog W 0 (fun _ => true) true Try.f4.params.toList args.toList ds p := hA0
  rw [Try.params4] at hA hval
  obtain ⟨v0, vs0, d0, ds0, p0, q0, hargs, rfl, rfl, h0, r0⟩ := trodAll_cons hA
  obtain ⟨v1, vs1, d1, ds1, p1, q1, rfl, rfl, rfl, h1, r1⟩ := trodAll_cons r0
  obtain ⟨rfl, rfl, rfl⟩ := trodAll_nil r1
  obtain rfl : args = #[v0, v1] := by cases args; simp_all
  obtain ⟨rfl, rfl⟩ := trodVars_none hV
  obtain ⟨l0, t0, n0, s0⟩ := open_peers (hval 0 22 v0 rfl rfl) h0
  obtain ⟨b1, rfl, rfl, rfl, w1⟩ := open_int Try.underlying3 (hval 1 3 v1 rfl rfl) h1
  clear hA0 hval0
  refine (crowdGreatest_walk W v0 l0 t0 s0 b1 (wf64 w1)).mono fun e W' ⟨he, hg⟩ => ?_
  subst he
  exact ⟨_, rfl, post_law laidOut (by kernel_rfl) (by kernel_rfl) Try.underlying4 rfl hW' rfl rfl rfl hg⟩
set_option maxRecDepth 100000 in
theorem lifted (os : Os) (started : os.Started) (H : Type) (enc : TypeId × Value → H) (F : Stop.Interp) :
    ReturnsInHanded {} Try.checked os 4 .any ((OpenSpec.ofChange Rows.crowdGreatestSpec).preRow enc Try.prog Try.f4 Rows.crowdGreatestRow.domain false Rows.crowdGreatestRow.laid) (((OpenSpec.ofChange Rows.crowdGreatestSpec).at F).post enc Try.prog Try.f4 false true false false) := by
  refine returnsInHanded_of_row (C := Try.checked) (s := OpenSpec.ofChange Rows.crowdGreatestSpec) own started (by kernel_rfl) Try.func4
    (witness_laid (enc := enc) (C := Try.checked) (s := OpenSpec.ofChange Rows.crowdGreatestSpec) (laid := Rows.crowdGreatestRow.laid) #[.slice none 0 0, .int .i64 0] (World.shaped_of_ZipB (by kernel_rfl) (by kernel_rfl)) (by kernel_rfl)
      (OpenSpec.preRow_of_cond 8 (x := ([.nil, .lit (.int .i64 0)], [], [])) (by kernel_rfl) (by kernel_rfl) (fun k hk => by cases hk) (by kernel_rfl)
        (by rw [MakeChecks.laidMetH_plain _ _ _ (by kernel_rfl)]; exact laidMet_laidAll _ (by kernel_rfl) (by kernel_rfl)))) ?_
  intro W base args ds gs before hval hW _ hcond _ _ hsh _
  exact contract H enc W base args ds gs before hval hW hsh
theorem over : Rows.crowdGreatestRow.holds Try.pinned (OpenSpec.ofChange Rows.crowdGreatestSpec) :=
  OpenClaim.holds_of_cond 4 Try.f4 rfl rfl rfl rfl rfl rfl rfl ⟨rfl, rfl, rfl, rfl, rfl⟩ rfl rfl rfl rfl rfl (by kernel_rfl) Try.func4 (by kernel_rfl)
    (of_decide_eq_true (by kernel_rfl)) (by unfold Func.isWrapper; first | (rw [if_pos (by decide +kernel)]; kernel_rfl) | (rw [if_neg (by decide +kernel)]; exact ⟨rfl, rfl⟩))
    (fun os started H enc _ F => by rw [OpenClaim.pre_eq_preRow]; exact lifted os started H enc F)
/-- ████ THE STATEMENT ████ -/
theorem proved : Rows.CrowdGreatestSaid := over
end crowdGreatest
end Go.Proofs.Ytanphaahcmfkcaa
