/- Of the statements of layer 21 (evict): are ends unlike; the example. -/
import Derived.Test.YtklmlgoeiaigkaaRef21
import Derived.Test.YtklmlgoeiaigkaaLaw19
import Derived.Deep.RegionHeld3
namespace Go.Proofs.Ytklmlgoeiaigkaa
set_option maxRecDepth 100000
open Go.ChangeShapes Go.WideShapes Go.ChangeAt Go.RowKit
open Dec Words V4 V6 Ad Ci En Sat Ha Pe Stb Gr Mi Ra Sh Cw Ev Go.Deep
set_option linter.unusedVariables false
theorem at21_0 (w : World) : Calls Try.prog 17 #[.int .u64 1, .int .i64 5, .bool true] w fun e w' => e = .returned (.agg #[.bool false, .int .u64 0, .int .u64 167837697, .int .i64 1005, .bool true, .int .i64 5, .int .i64 0, .int .i64 0, .int .i64 0, .int .i64 0]) ∧ Below w.heap.size w w' := by
  have L : Below w.heap.size w (w.alloc (.cells #[.bool false, .int .u64 0, .int .u64 167837697, .int .i64 1005, .bool true, .int .i64 5, .int .i64 0, .int .i64 0, .int .i64 0, .int .i64 0] 43)) := (Below.refl _ _).alloc (Nat.le_refl _) _
  go_enter Try.func17, Try.ntmps17
  go_wp2_with fail
  exact bodyPost_ret (v := .agg #[.bool false, .int .u64 0, .int .u64 167837697, .int .i64 1005, .bool true, .int .i64 5, .int .i64 0, .int .i64 0, .int .i64 0, .int .i64 0]) (by simp [results, Try.results17, go_sem]) rfl ⟨rfl, L⟩
theorem at21_1 (w : World) : Calls Try.prog 17 #[.int .u64 2, .int .i64 20, .bool true] w fun e w' => e = .returned (.agg #[.bool false, .int .u64 0, .int .u64 167903233, .int .i64 1020, .bool true, .int .i64 20, .int .i64 0, .int .i64 0, .int .i64 0, .int .i64 0]) ∧ Below w.heap.size w w' := by
  have L : Below w.heap.size w (w.alloc (.cells #[.bool false, .int .u64 0, .int .u64 167903233, .int .i64 1020, .bool true, .int .i64 20, .int .i64 0, .int .i64 0, .int .i64 0, .int .i64 0] 43)) := (Below.refl _ _).alloc (Nat.le_refl _) _
  go_enter Try.func17, Try.ntmps17
  go_wp2_with fail
  exact bodyPost_ret (v := .agg #[.bool false, .int .u64 0, .int .u64 167903233, .int .i64 1020, .bool true, .int .i64 20, .int .i64 0, .int .i64 0, .int .i64 0, .int .i64 0]) (by simp [results, Try.results17, go_sem]) rfl ⟨rfl, L⟩
theorem at21_2 (w : World) : Calls Try.prog 17 #[.int .u64 1, .int .i64 9, .bool true] w fun e w' => e = .returned (.agg #[.bool false, .int .u64 0, .int .u64 167837697, .int .i64 1009, .bool true, .int .i64 9, .int .i64 0, .int .i64 0, .int .i64 0, .int .i64 0]) ∧ Below w.heap.size w w' := by
  have L : Below w.heap.size w (w.alloc (.cells #[.bool false, .int .u64 0, .int .u64 167837697, .int .i64 1009, .bool true, .int .i64 9, .int .i64 0, .int .i64 0, .int .i64 0, .int .i64 0] 43)) := (Below.refl _ _).alloc (Nat.le_refl _) _
  go_enter Try.func17, Try.ntmps17
  go_wp2_with fail
  exact bodyPost_ret (v := .agg #[.bool false, .int .u64 0, .int .u64 167837697, .int .i64 1009, .bool true, .int .i64 9, .int .i64 0, .int .i64 0, .int .i64 0, .int .i64 0]) (by simp [results, Try.results17, go_sem]) rfl ⟨rfl, L⟩
theorem at21_3 (w : World) : Calls Try.prog 17 #[.int .u64 1, .int .i64 30, .bool false] w fun e w' => e = .returned (.agg #[.bool false, .int .u64 0, .int .u64 167837697, .int .i64 1030, .bool false, .int .i64 30, .int .i64 0, .int .i64 0, .int .i64 0, .int .i64 0]) ∧ Below w.heap.size w w' := by
  have L : Below w.heap.size w (w.alloc (.cells #[.bool false, .int .u64 0, .int .u64 167837697, .int .i64 1030, .bool false, .int .i64 30, .int .i64 0, .int .i64 0, .int .i64 0, .int .i64 0] 43)) := (Below.refl _ _).alloc (Nat.le_refl _) _
  go_enter Try.func17, Try.ntmps17
  go_wp2_with fail
  exact bodyPost_ret (v := .agg #[.bool false, .int .u64 0, .int .u64 167837697, .int .i64 1030, .bool false, .int .i64 30, .int .i64 0, .int .i64 0, .int .i64 0, .int .i64 0]) (by simp [results, Try.results17, go_sem]) rfl ⟨rfl, L⟩
def l21 : List Pr := [⟨⟨⟨false, 0, 167837697⟩, 1005⟩, true, 5, ⟨0, 0⟩, 0, 0⟩, ⟨⟨⟨false, 0, 167903233⟩, 1020⟩, true, 20, ⟨0, 0⟩, 0, 0⟩, ⟨⟨⟨false, 0, 167837697⟩, 1009⟩, true, 9, ⟨0, 0⟩, 0, 0⟩, ⟨⟨⟨false, 0, 167837697⟩, 1030⟩, false, 30, ⟨0, 0⟩, 0, 0⟩]
def c21 : List Pr := [⟨⟨⟨false, 0, 167837697⟩, 1005⟩, true, 5, ⟨0, 0⟩, 0, 0⟩, ⟨⟨⟨false, 0, 167903233⟩, 1020⟩, true, 20, ⟨0, 0⟩, 0, 0⟩, ⟨⟨⟨false, 0, 167837697⟩, 1009⟩, true, 9, ⟨0, 0⟩, 0, 0⟩]
theorem l21_ok : ∀ x ∈ l21, x.ok := by
  intro x hx
  simp only [l21, List.mem_cons, List.not_mem_nil, or_false] at hx
  rcases hx with rfl | rfl | rfl | rfl <;> exact ⟨⟨⟨by decide, by decide⟩, by decide, by decide⟩, by decide, ⟨by decide, by decide⟩, by decide, by decide⟩
theorem l21_came : cameR l21 = c21 := rfl
theorem saved_zero (L : List Pr) (s : Nat) : savedR L ⟨0, 0, 0, 0⟩ s 4 = fun _ => false := (upto_zero _ _).trans ((upto_zero _ _).trans ((upto_zero _ _).trans (upto_zero _ _)))
theorem cand_some (n : Int) : (candR l21 ⟨0, 0, 0, n⟩ 7).length + min n.toNat 3 = 3 := by
  have h := saved_count (l := c21) (q := ⟨0, 0, 0, n⟩) (s := 7) 3
  have h3 : savedR c21 ⟨0, 0, 0, n⟩ 7 3 = fun _ => false := (upto_zero _ _).trans ((upto_zero _ _).trans (upto_zero _ _))
  rw [h3, show ((3 + 1 : Nat) : Int) = 4 from rfl, ordX_all (Or.inr rfl), rest_none] at h
  rw [cand_length, l21_came]
  exact h
theorem cand_three : 0 < (candR l21 ⟨0, 0, 0, 0⟩ 7).length := by
  have := cand_some 0
  omega
theorem cand_zero : candR l21 ⟨0, 0, 0, 0⟩ 7 = c21 := by
  unfold candR leftR
  rw [l21_came, saved_zero]
  rfl
theorem end_zero : exitR (candR l21 ⟨0, 0, 0, 0⟩ 7) = ⟨⟨false, 0, 167837697⟩, 1009⟩ := by
  rw [cand_zero]
  show (c21[bestR c21 2]!).e = _
  rw [show bestR c21 2 = 2 from by decide +kernel]
  rfl
/-- Whether all ends are unlike. -/
noncomputable def unlikeB (l : List Pr) : Bool := @decide (Unlike l) (Classical.propDecidable _)
theorem unlikeB_yes {l : List Pr} (h : Unlike l) : unlikeB l = true := by unfold unlikeB; exact @decide_eq_true _ (Classical.propDecidable _) h
theorem unlikeB_no {l : List Pr} (h : ¬ Unlike l) : unlikeB l = false := by unfold unlikeB; exact @decide_eq_false _ (Classical.propDecidable _) h
theorem unlike_yes {l : List Pr} (h : ∀ p q, p < q → q < l.length → (l[p]!).e ≠ (l[q]!).e) : Unlike l := List.pairwise_iff_getElem.2 fun p q hp hq hpq => by
  have h2 := h p q hpq hq
  rw [getElem!_pos l p hp, getElem!_pos l q hq] at h2
  exact h2
set_option maxHeartbeats 8000000 in
theorem unlike_any (v : Value) (l : List Pr) (w : World) (h : Peers w v l) (hl : l.length ≤ 1000000) :
    Calls Try.prog 12 #[v] w fun e w' => e = .returned (.bool (unlikeB l)) ∧ Below w.heap.size w w' := by
  have HT : Hid ((∀ p q, p < q → q < l.length → (l[p]!).e ≠ (l[q]!).e) → unlikeB l = true) := Lib.hid fun h => unlikeB_yes (unlike_yes h)
  have HF : Hid (∀ p q, p < q → q < l.length → (l[p]!).e = (l[q]!).e → unlikeB l = false) := Lib.hid fun p q hpq hq e => unlikeB_no fun hu => by have := unlike_at hu (by omega : p < l.length) hq e; omega
  generalize unlikeB l = U at *
  obtain ⟨A, c, rfl, hc, _, hcell⟩ := h
  have HC := Lib.hid hcell
  clear hcell hc
  go_enter Try.func12, Try.ntmps12
  go_wp2_with fail
  go_loopw [3] (fun vi wr => ∃ i : Nat, vi = .int .i64 i ∧ i ≤ l.length ∧ Hid (∀ p q, p < q → q < i → (l[p]!).e ≠ (l[q]!).e) ∧ Hid (Lows w wr)) (fun vi _ => l.length - (intOf vi).toNat)
  case atStart => exact ⟨0, rfl, Nat.zero_le _, Lib.hid (fun p q _ h => by omega), Lib.hid (Lows.self _)⟩
  case round =>
    obtain ⟨i, rfl, hi, HD, HL⟩ := hrel
    by_cases hli : i < l.length
    · have hliz : (i : Int) < (l.length : Int) := by omega
      obtain ⟨W, hW⟩ : ∃ W, W = wr := ⟨_, rfl⟩
      subst hW
      go_wp2_with fail
      go_loopw [4] (fun vk wr => ∃ k : Nat, vk = .int .i64 k ∧ k ≤ i ∧ Hid (∀ p, p < k → (l[p]!).e ≠ (l[i]!).e) ∧ Hid (Lows w wr)) (fun vk _ => i - (intOf vk).toNat)
      case atStart => exact ⟨0, rfl, Nat.zero_le _, Lib.hid (fun p h => by omega), HL⟩
      case round =>
        obtain ⟨k, rfl, hk, HE, HL2⟩ := hrel
        by_cases hki : k < i
        · have hkiz : (k : Int) < (i : Int) := by omega
          have hlk : k < l.length := by omega
          have hlkz : (k : Int) < (l.length : Int) := by omega
          obtain ⟨bb, o, rfl, hb9, hcc⟩ := HC.out (by omega)
          obtain ⟨x, hx⟩ : ∃ x, x = l[i]! := ⟨_, rfl⟩
          obtain ⟨z, hz⟩ : ∃ x, x = l[k]! := ⟨_, rfl⟩
          have hne : Nonempty (Cls (Lows wr)) := ⟨⟨_, Lows.self _⟩⟩
          have f0 : ∀ nq : Cls (Lows wr), nq.w.cell? ⟨bb, o + i * 10, none⟩ = some (.bool x.e.a.v6) := fun nq => by rw [hx]; exact peer_at (low_trans'' HL2.out nq.h) hb9 hcc hli (j := 0) rfl
          have f1 : ∀ nq : Cls (Lows wr), nq.w.cell? ⟨bb, o + i * 10 + 1, none⟩ = some (.int .u64 x.e.a.hi) := fun nq => by rw [hx]; exact peer_at (low_trans'' HL2.out nq.h) hb9 hcc hli (j := 1) rfl
          have f2 : ∀ nq : Cls (Lows wr), nq.w.cell? ⟨bb, o + i * 10 + 2, none⟩ = some (.int .u64 x.e.a.lo) := fun nq => by rw [hx]; exact peer_at (low_trans'' HL2.out nq.h) hb9 hcc hli (j := 2) rfl
          have f3 : ∀ nq : Cls (Lows wr), nq.w.cell? ⟨bb, o + i * 10 + 3, none⟩ = some (.int .i64 x.e.n) := fun nq => by rw [hx]; exact peer_at (low_trans'' HL2.out nq.h) hb9 hcc hli (j := 3) rfl
          have g0 : ∀ nq : Cls (Lows wr), nq.w.cell? ⟨bb, o + k * 10, none⟩ = some (.bool z.e.a.v6) := fun nq => by rw [hz]; exact peer_at (low_trans'' HL2.out nq.h) hb9 hcc hlk (j := 0) rfl
          have g1 : ∀ nq : Cls (Lows wr), nq.w.cell? ⟨bb, o + k * 10 + 1, none⟩ = some (.int .u64 z.e.a.hi) := fun nq => by rw [hz]; exact peer_at (low_trans'' HL2.out nq.h) hb9 hcc hlk (j := 1) rfl
          have g2 : ∀ nq : Cls (Lows wr), nq.w.cell? ⟨bb, o + k * 10 + 2, none⟩ = some (.int .u64 z.e.a.lo) := fun nq => by rw [hz]; exact peer_at (low_trans'' HL2.out nq.h) hb9 hcc hlk (j := 2) rfl
          have g3 : ∀ nq : Cls (Lows wr), nq.w.cell? ⟨bb, o + k * 10 + 3, none⟩ = some (.int .i64 z.e.n) := fun nq => by rw [hz]; exact peer_at (low_trans'' HL2.out nq.h) hb9 hcc hlk (j := 3) rfl
          have Hx := Lib.hid hx
          have Hz := Lib.hid hz
          have EQ := fun W => eqEnd x.e z.e W
          clear hcc hb9 hx hz
          cases hs : sameE x.e z.e with
          | true =>
            have HU : Hid (U = false) := Lib.hid (HF.out k i hki hli (by rw [← Hz.out, ← Hx.out]; exact ((sameE_iff x.e z.e).1 hs).symm))
            rw [hs] at EQ
            clear hs
            go_wp2_with fail
            refine Cls.region (Lows wr) (by kernel_rfl) (by kernel_rfl) (low_drewN (Below.refl _ _) 1) ?_
            (try dsimp only [List.append])
            repeat (go_big_quiet_step (first | fail))
            refine wpQuiet_nil ?_
            intro n9
            have hk9 := n9.h
            generalize n9.w = w9 at hk9 ⊢
            clear hne n9 EQ f0 f1 f2 f3 g0 g1 g2 g3
            go_wp2_with fail
            go_ret
            exact ⟨ret_b HU.out.symm, low_trans HL2.out hk9⟩
          | false =>
            have HE2 : Hid (∀ p, p < k + 1 → (l[p]!).e ≠ (l[i]!).e) := Lib.hid (fun p hp e => by
              by_cases c : p = k
              · subst c
                rw [← Hz.out, ← Hx.out] at e
                rw [(sameE_iff x.e z.e).2 e.symm] at hs
                cases hs
              · exact HE.out p (by omega) e)
            rw [hs] at EQ
            clear hs
            go_wp2_with fail
            refine Cls.region (Lows wr) (by kernel_rfl) (by kernel_rfl) (low_drewN (Below.refl _ _) 1) ?_
            (try dsimp only [List.append])
            repeat (go_big_quiet_step (first | fail))
            refine wpQuiet_nil ?_
            intro n9
            have hk9 := n9.h
            generalize n9.w = w9 at hk9 ⊢
            clear hne n9 EQ f0 f1 f2 f3 g0 g1 g2 g3
            go_wp2_with fail
            go_roundw
            case rel => exact ⟨k + 1, by go_num, by omega, HE2, Lib.hid (low_trans HL2.out hk9)⟩
            case measure => simp [intOf]; omega
        · have hkiz : ¬ (k : Int) < (i : Int) := by omega
          have HD2 : Hid (∀ p q, p < q → q < i + 1 → (l[p]!).e ≠ (l[q]!).e) := Lib.hid (fun p q hp hq => by
            by_cases c : q = i
            · subst c; exact HE.out p (by omega)
            · exact HD.out p q hp (by omega))
          go_wp2_with fail
          go_roundw
          case rel => exact ⟨i + 1, by go_num, by omega, HD2, HL2⟩
          case measure => simp [intOf]; omega
    · have hliz : ¬ (i : Int) < (l.length : Int) := by omega
      have HU : Hid (U = true) := Lib.hid (HT.out fun p q hp hq => HD.out p q hp (by omega))
      go_wp2_with fail
      go_ret
      exact ⟨ret_b HU.out.symm, HL.out⟩
abbrev S21 (w3 w5 w6 w' : World) : Prop := w'.cell? ⟨w3.heap.size, 20, none⟩ = some (.bool false) ∧ w'.cell? ⟨w3.heap.size, 21, none⟩ = some (.int .u64 0) ∧ w'.cell? ⟨w3.heap.size, 22, none⟩ = some (.int .u64 167837697) ∧ w'.cell? ⟨w3.heap.size, 23, none⟩ = some (.int .i64 1009) ∧ w'.cell? ⟨w5.heap.size, 0, none⟩ = some (.bool false) ∧ w'.cell? ⟨w5.heap.size, 1, none⟩ = some (.int .u64 0) ∧ w'.cell? ⟨w5.heap.size, 2, none⟩ = some (.int .u64 167837697) ∧ w'.cell? ⟨w5.heap.size, 3, none⟩ = some (.int .i64 1009) ∧ Lows w6 w'
set_option maxHeartbeats 16000000 in
theorem awake21_any (w : World) : Calls Try.prog 6 #[] w fun e w' => e = .returned (.bool true) ∧ Below w.heap.size w w' := by
  have A1 := Lib.hid (fun W => at21_0 W)
  have A2 := Lib.hid (fun W => at21_1 W)
  have A3 := Lib.hid (fun W => at21_2 W)
  have A4 := Lib.hid (fun W => at21_3 W)
  have F1 : Hid (∀ W v, Peers W v l21 → Calls Try.prog 7 #[v, .agg #[.int .i64 0, .int .i64 0, .int .i64 0, .int .i64 0], .int .u64 7] W fun e w' => e = .returned (.tuple #[.agg #[.bool false, .int .u64 0, .int .u64 167837697, .int .i64 1009], .bool true]) ∧ Below W.heap.size W w') := Lib.hid fun W v h => by
    have k := choose_any v l21 ⟨0, 0, 0, 0⟩ 7 W h l21_ok (by decide) (by decide)
    rwa [decide_eq_true cand_three, end_zero] at k
  have F2 : Hid (∀ W v, Peers W v l21 → Calls Try.prog 7 #[v, .agg #[.int .i64 0, .int .i64 0, .int .i64 0, .int .i64 3], .int .u64 7] W fun e w' => e = .returned (.tuple #[.agg #[.bool false, .int .u64 0, .int .u64 0, .int .i64 0], .bool false]) ∧ Below W.heap.size W w') := Lib.hid fun W v h => by
    have k := choose_any v l21 ⟨0, 0, 0, 3⟩ 7 W h l21_ok (by decide) (by decide)
    have h0 : (candR l21 ⟨0, 0, 0, 3⟩ 7).length = 0 := by have := cand_some 3; omega
    rwa [decide_eq_false (by omega), show exitR (candR l21 ⟨0, 0, 0, 3⟩ 7) = zeroE from by unfold exitR; rw [if_pos h0]] at k
  have F3 : Hid (∀ W v, Peers W v l21 → Calls Try.prog 10 #[v, .agg #[.int .i64 0, .int .i64 0, .int .i64 0, .int .i64 1], .int .u64 7] W fun e w' => ∃ A3 c3, e = .returned (.slice A3 2 c3) ∧ Below W.heap.size W w') := Lib.hid fun W v h => by
    have k := candidates_any v l21 ⟨0, 0, 0, 1⟩ 7 W h l21_ok (by decide) (by decide)
    have h2 : (candR l21 ⟨0, 0, 0, 1⟩ 7).length = 2 := by have := cand_some 1; omega
    refine k.mono fun e w' ⟨u, he, hu, hb⟩ => ?_
    obtain ⟨A3, c3, rfl, _⟩ := hu
    rw [h2] at he
    exact ⟨A3, c3, he, hb⟩
  go_enter Try.func6, Try.ntmps6
  go_wp2_with fail
  refine (A1.out _).mono ?_; rintro e w1 ⟨rfl, hb1⟩
  have L1 := Lib.hid hb1
  clear hb1
  go_wp2_with fail
  refine (A2.out _).mono ?_; rintro e w2 ⟨rfl, hb2⟩
  have L2 := Lib.hid (low_trans L1.out hb2)
  clear hb2 L1
  go_wp2_with fail
  refine (A3.out _).mono ?_; rintro e wq ⟨rfl, hbq⟩
  have Lq := Lib.hid (low_trans L2.out hbq)
  clear hbq L2
  go_wp2_with fail
  refine (A4.out _).mono ?_; rintro e w3 ⟨rfl, hb3⟩
  have L3 := Lib.hid (low_trans Lq.out hb3)
  have L4 : Hid (Below w.heap.size w (w3.alloc (.cells #[.bool false, .int .u64 0, .int .u64 167837697, .int .i64 1005, .bool true, .int .i64 5, .int .i64 0, .int .i64 0, .int .i64 0, .int .i64 0, .bool false, .int .u64 0, .int .u64 167903233, .int .i64 1020, .bool true, .int .i64 20, .int .i64 0, .int .i64 0, .int .i64 0, .int .i64 0, .bool false, .int .u64 0, .int .u64 167837697, .int .i64 1009, .bool true, .int .i64 9, .int .i64 0, .int .i64 0, .int .i64 0, .int .i64 0, .bool false, .int .u64 0, .int .u64 167837697, .int .i64 1030, .bool false, .int .i64 30, .int .i64 0, .int .i64 0, .int .i64 0, .int .i64 0] 43))) := Lib.hid (Lows.alloc L3.out _)
  have PE0 : Hid (Peers (w3.alloc (.cells #[.bool false, .int .u64 0, .int .u64 167837697, .int .i64 1005, .bool true, .int .i64 5, .int .i64 0, .int .i64 0, .int .i64 0, .int .i64 0, .bool false, .int .u64 0, .int .u64 167903233, .int .i64 1020, .bool true, .int .i64 20, .int .i64 0, .int .i64 0, .int .i64 0, .int .i64 0, .bool false, .int .u64 0, .int .u64 167837697, .int .i64 1009, .bool true, .int .i64 9, .int .i64 0, .int .i64 0, .int .i64 0, .int .i64 0, .bool false, .int .u64 0, .int .u64 167837697, .int .i64 1030, .bool false, .int .i64 30, .int .i64 0, .int .i64 0, .int .i64 0, .int .i64 0] 43)) (.slice (some ⟨w3.heap.size, 0, none⟩) 4 4) l21) := Lib.hid (Recs.lit (k := 10) (enc := encP) (fun _ => rfl) w3 l21 #[.bool false, .int .u64 0, .int .u64 167837697, .int .i64 1005, .bool true, .int .i64 5, .int .i64 0, .int .i64 0, .int .i64 0, .int .i64 0, .bool false, .int .u64 0, .int .u64 167903233, .int .i64 1020, .bool true, .int .i64 20, .int .i64 0, .int .i64 0, .int .i64 0, .int .i64 0, .bool false, .int .u64 0, .int .u64 167837697, .int .i64 1009, .bool true, .int .i64 9, .int .i64 0, .int .i64 0, .int .i64 0, .int .i64 0, .bool false, .int .u64 0, .int .u64 167837697, .int .i64 1030, .bool false, .int .i64 30, .int .i64 0, .int .i64 0, .int .i64 0, .int .i64 0] 43 rfl)
  have HB0 := Lib.hid (Blk.new w3 #[.bool false, .int .u64 0, .int .u64 167837697, .int .i64 1005, .bool true, .int .i64 5, .int .i64 0, .int .i64 0, .int .i64 0, .int .i64 0, .bool false, .int .u64 0, .int .u64 167903233, .int .i64 1020, .bool true, .int .i64 20, .int .i64 0, .int .i64 0, .int .i64 0, .int .i64 0, .bool false, .int .u64 0, .int .u64 167837697, .int .i64 1009, .bool true, .int .i64 9, .int .i64 0, .int .i64 0, .int .i64 0, .int .i64 0, .bool false, .int .u64 0, .int .u64 167837697, .int .i64 1030, .bool false, .int .i64 30, .int .i64 0, .int .i64 0, .int .i64 0, .int .i64 0] 43)
  have FF := Lib.hid (F1.out _ _ PE0.out)
  clear hb3 Lq L3 A1 A2 A3 A4 F1
  go_wp2_with fail
  refine FF.out.mono ?_; rintro e w4 ⟨rfl, hb4⟩
  have L5 := Lib.hid (low_trans L4.out hb4)
  have HB1 := Lib.hid ((HB0.out.on hb4).alloc (.cells #[.bool false, .int .u64 0, .int .u64 167837697, .int .i64 1009] 30))
  have PE1 := Lib.hid ((PE0.out.below hb4).below (Lows.alloc (Lows.self w4) (.cells #[.bool false, .int .u64 0, .int .u64 167837697, .int .i64 1009] 30)))
  have HB2 := Lib.hid (Blk.new w4 #[.bool false, .int .u64 0, .int .u64 167837697, .int .i64 1009] 30)
  have L6 : Hid (Below w.heap.size w (w4.alloc (.cells #[.bool false, .int .u64 0, .int .u64 167837697, .int .i64 1009] 30))) := Lib.hid (Lows.alloc L5.out _)
  clear hb4 L4 L5 PE0 HB0 FF
  go_wp2_with fail
  have FG := Lib.hid (F2.out _ _ PE1.out)
  refine FG.out.mono ?_; rintro e w5 ⟨rfl, hb5⟩
  have L7 := Lib.hid (low_trans L6.out hb5)
  have HB3 := Lib.hid (HB1.out.on hb5)
  have HB4 := Lib.hid (HB2.out.on hb5)
  have PE2 := Lib.hid (PE1.out.below hb5)
  clear hb5 L6 PE1 HB1 HB2 FG F2
  go_wp2_with fail
  obtain ⟨W6, hW6⟩ : ∃ W6, W6 = w5.alloc (.cells #[.bool false, .int .u64 0, .int .u64 0, .int .i64 0] 30) := ⟨_, rfl⟩
  have L8 : Hid (Below w.heap.size w W6) := Lib.hid (by rw [hW6]; exact Lows.alloc L7.out _)
  have IN : ∀ w', Lows W6 w' → S21 w3 w4 W6 w' := fun w' h => ⟨(HB3.out.on (low_trans (by rw [hW6]; exact Lows.alloc (Lows.self _) _) h)).cell (j := 20) rfl, (HB3.out.on (low_trans (by rw [hW6]; exact Lows.alloc (Lows.self _) _) h)).cell (j := 21) rfl, (HB3.out.on (low_trans (by rw [hW6]; exact Lows.alloc (Lows.self _) _) h)).cell (j := 22) rfl, (HB3.out.on (low_trans (by rw [hW6]; exact Lows.alloc (Lows.self _) _) h)).cell (j := 23) rfl, (HB4.out.on (low_trans (by rw [hW6]; exact Lows.alloc (Lows.self _) _) h)).cell (j := 0) rfl, (HB4.out.on (low_trans (by rw [hW6]; exact Lows.alloc (Lows.self _) _) h)).cell (j := 1) rfl, (HB4.out.on (low_trans (by rw [hW6]; exact Lows.alloc (Lows.self _) _) h)).cell (j := 2) rfl, (HB4.out.on (low_trans (by rw [hW6]; exact Lows.alloc (Lows.self _) _) h)).cell (j := 3) rfl, h⟩
  have KC : Hid (∀ W, S21 w3 w4 W6 W → Calls Try.prog 10 #[.slice (some ⟨w3.heap.size, 0, none⟩) 4 4, .agg #[.int .i64 0, .int .i64 0, .int .i64 0, .int .i64 1], .int .u64 7] W fun e w' => ∃ A3 c3, e = .returned (.slice A3 2 c3) ∧ S21 w3 w4 W6 w') := Lib.hid fun W h => (F3.out W _ (PE2.out.below (low_trans (by rw [hW6]; exact Lows.alloc (Lows.self _) _) h.2.2.2.2.2.2.2.2))).mono fun e w' ⟨A3, c3, he, hb⟩ => ⟨A3, c3, he, IN _ (low_trans h.2.2.2.2.2.2.2.2 hb)⟩
  have EQ := fun W => eqEnd ⟨⟨false, 0, 167837697⟩, 1009⟩ ⟨⟨false, 0, 167837697⟩, 1009⟩ W
  rw [show sameE ⟨⟨false, 0, 167837697⟩, 1009⟩ ⟨⟨false, 0, 167837697⟩, 1009⟩ = true from (sameE_iff _ _).2 rfl] at EQ
  have hk0 : S21 w3 w4 W6 W6 := IN _ (Lows.self _)
  have JD : Hid (∀ W, S21 w3 w4 W6 W → S21 w3 w4 W6 W.drew) := Lib.hid fun W h => IN _ (low_drewN h.2.2.2.2.2.2.2.2 1)
  rw [← hW6]
  clear hW6 IN PE2 F3 HB3 HB4 L7
  obtain ⟨k0, k1, k2, k3, k4, k5, k6, k7, k8⟩ := id hk0
  go_region_held3 (fun w' => w'.cell? ⟨w3.heap.size, 20, none⟩ = some (.bool false) ∧ w'.cell? ⟨w3.heap.size, 21, none⟩ = some (.int .u64 0) ∧ w'.cell? ⟨w3.heap.size, 22, none⟩ = some (.int .u64 167837697) ∧ w'.cell? ⟨w3.heap.size, 23, none⟩ = some (.int .i64 1009) ∧ w'.cell? ⟨w4.heap.size, 0, none⟩ = some (.bool false) ∧ w'.cell? ⟨w4.heap.size, 1, none⟩ = some (.int .u64 0) ∧ w'.cell? ⟨w4.heap.size, 2, none⟩ = some (.int .u64 167837697) ∧ w'.cell? ⟨w4.heap.size, 3, none⟩ = some (.int .i64 1009) ∧ Lows W6 w')
    (first | (with_reducible assumption) | (with_reducible exact JD.out _ (by with_reducible assumption)))
    (first
      | (go_at_call 10; (with_reducible refine (KC.out _ (by with_reducible assumption)).mono ?_); rintro e w9 ⟨A3, c3, rfl, hkw⟩))
  all_goals
    have hkf := ‹S21 w3 w4 W6 _›
    go_wp2_with fail
    go_ret
    exact ⟨rfl, low_trans L8.out hkf.2.2.2.2.2.2.2.2⟩
end Go.Proofs.Ytklmlgoeiaigkaa
