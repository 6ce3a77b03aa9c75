/- Contracts of package half and of its document's answers. -/
import Derived.Test.YtdlbhcakfciagaaSat
import Derived.Test.YtdlbhcakfciagaaHalfMath
import Derived.Test.YtdlbhcakfciagaaCls
import Derived.Lib.MinMax
import Derived.Laws.StructEq
namespace Go.Proofs.Ytdlbhcakfciagaa.Ha
set_option maxRecDepth 100000
open Go.ChangeShapes Go.WideShapes Go.ChangeAt Go.RowKit
open Sat
set_option linter.unusedVariables false
theorem shr_int (P k : Int) (h0 : 0 ≤ P) (h1 : P ≤ 1099511627776) (hk : 0 ≤ k) : Op.shift .shr .i64 P .i64 k = pure (.int .i64 (P / 2 ^ k.toNat)) := by
  have e : P / 2 ^ min k.toNat 64 = P / 2 ^ k.toNat := by
    by_cases h : 64 ≤ k.toNat
    · have hp : (2 : Int) ^ 64 ≤ 2 ^ k.toNat := by
        have := Nat.pow_le_pow_right (n := 2) (by omega) h
        have e1 : ((2 ^ 64 : Nat) : Int) = 2 ^ 64 := by rfl
        have e2 : ((2 ^ k.toNat : Nat) : Int) = 2 ^ k.toNat := by simp
        omega
      rw [show min k.toNat 64 = 64 by omega, Int.ediv_eq_zero_of_lt h0 (by omega), Int.ediv_eq_zero_of_lt h0 (by omega)]
    · rw [show min k.toNat 64 = k.toNat by omega]
  unfold Op.shift
  rw [if_neg (by omega)]
  simp only [IntKind.bits]
  rw [Int.fdiv_eq_ediv_of_nonneg _ (Int.le_of_lt (pow_pos' _)), e]
set_option maxHeartbeats 4000000 in
theorem decay_any (s : Sc) (h now : Int) (w : World) :
    Calls Try.prog 45 #[.agg #[.int .i64 s.p, .int .i64 s.a], .int .i64 h, .int .i64 now] w fun e w' => e = .returned (.agg #[.int .i64 (decayS s h now).p, .int .i64 (decayS s h now).a]) ∧ Below w.heap.size w w' := by
  obtain ⟨m1, M1⟩ : ∃ m : Int, max h 1 = m := ⟨_, rfl⟩
  have M2 : min m1 1073741824 = lifeH h := by rw [← M1]; unfold lifeH; repeat (first | split | omega)
  obtain ⟨m2, M3⟩ : ∃ m : Int, max s.p 0 = m := ⟨_, rfl⟩
  have M4 : min m2 1099511627776 = fit s.p := by rw [← M3]; unfold fit; repeat (first | split | omega)
  have hA := fit_bd s.a
  have hP := fit_bd s.p
  have hL := life_bd h
  have hk := wholes_nn s h now
  have hk2 := wholes_le s h now
  have hm := wholes_mul s h now
  have hd := decay_at s h now
  have hx := fit_bd (fit now - fit (fit s.a))
  have E4 := shr_int (fit s.p) (wholes s h now) hP.1 hP.2 hk
  have E3 : fit (fit now - fit (fit s.a)) / lifeH h = wholes s h now := by unfold wholes; rw [fit_fit]
  have E5 : Hid ((decayS s h now).p = fit s.p / 2 ^ (wholes s h now).toNat) := Lib.hid rfl
  have E6 : Hid ((decayS s h now).a = fit s.a + wholes s h now * lifeH h) := Lib.hid rfl
  rw [E6.out] at hd
  go_enter Try.func45, Try.ntmps45
  go_wp2_with fail
  refine (fit_any _ _).mono ?_; rintro e w' ⟨rfl, rfl⟩
  go_wp2_with fail
  refine (sub_any _ _ _).mono ?_; rintro e w' ⟨rfl, rfl⟩
  unfold sub
  go_wp2_with fail
  exact bodyPost_ret (v := .agg #[.int .i64 (fit s.p / 2 ^ (wholes s h now).toNat), .int .i64 (fit s.a + wholes s h now * lifeH h)]) (by simp [results, Try.results45, go_sem]) rfl ⟨by rw [E5.out, E6.out], ((Below.refl _ _).alloc (Nat.le_refl _) _).alloc (by simp) _⟩
theorem field_p (p a : Int) (w : World) : (Instr.field 28 (.agg #[.int .i64 p, .int .i64 a]) 0).run Try.prog w = .ok (.int .i64 p) w := by kernel_rfl
theorem life_is {h m : Int} (e : lifeH h = m) (s : Sc) (now : Int) (j : Nat) (hj : (j : Int) ≤ wholes s h now) :
    (0 ≤ fit s.p / 2 ^ j ∧ fit s.p / 2 ^ j ≤ 1099511627776) ∧ (0 ≤ fit s.a + j * m ∧ fit s.a + j * m ≤ 1099511627776) ∧ (fit s.p / 2 ^ j / 2 = fit s.p / 2 ^ (j + 1)) ∧ (fit s.a + j * m + m = fit s.a + ((j + 1 : Nat) : Int) * m)
    ∧ (m ≤ fit now - (fit s.a + j * m) → ((j + 1 : Nat) : Int) ≤ wholes s h now)
    ∧ (¬ m ≤ fit now - (fit s.a + j * m) → decayS s h now = ⟨fit s.p / 2 ^ j, fit s.a + j * m⟩)
    ∧ (m ≤ fit now - (fit s.a + j * m) → fit s.p / 2 ^ j = 0 → decayS s h now = ⟨0, fit now - (fit now - (fit s.a + j * m)) % m⟩) := by
  subst e
  have hp := part_bd (fit s.p) (fit_bd s.p).1 j
  have hP := fit_bd s.p
  have hA := fit_bd s.a
  have hL := life_bd h
  have hd := decay_at s h now
  have hm : (j : Int) * lifeH h ≤ wholes s h now * lifeH h := Int.mul_le_mul_of_nonneg_right hj (by omega)
  have h0 : 0 ≤ (j : Int) * lifeH h := Int.mul_nonneg (by omega) (by omega)
  have hd2 : fit s.a + wholes s h now * lifeH h ≤ 1099511627776 := hd.2
  refine ⟨⟨hp.1, by omega⟩, ⟨by omega, by omega⟩, half_more _ hP.1 j, ?_, fun hl => wholes_next s h now j hl, fun hl => ?_, fun hl hz => ?_⟩
  · rw [Int.natCast_add, Int.add_mul]; simp; omega
  · have e := wholes_last s h now j hj hl
    unfold decayS
    rw [e]
    simp
  · have e1 := none_left s h now j hj hz
    have e2 := wholes_rest s h now j hl
    unfold decayS
    rw [e1, e2]
set_option maxHeartbeats 4000000 in
theorem rdecay_any (s : Sc) (h now : Int) (w : World) :
    Calls Try.prog 36 #[.agg #[.int .i64 s.p, .int .i64 s.a], .int .i64 h, .int .i64 now] w fun e w' => e = .returned (.agg #[.int .i64 (decayS s h now).p, .int .i64 (decayS s h now).a]) ∧ Below w.heap.size w w' := by
  have hA := fit_bd s.a
  have hP := fit_bd s.p
  have hN := fit_bd now
  rcases (show (h < 1) ∨ (1 ≤ h ∧ h ≤ 1073741824) ∨ 1073741824 < h by omega) with h1 | h1 | h1
  all_goals
    go_enter Try.func36, Try.ntmps36
    go_wp2_with (go_at_call 23; refine (rfit_any _ _).mono ?_; rintro e w' ⟨rfl, rfl⟩)
  · have HL : lifeH h = 1 := by unfold lifeH; rw [if_pos h1]
    have KL := Lib.hid (life_is HL s now)
    have LOW : ∀ o p, Below w.heap.size w ((w.alloc o).alloc p) := fun o p => ((Below.refl _ _).alloc (Nat.le_refl _) o).alloc (by simp) p
    go_loopw [] (fun wr => ∃ j : Nat, Hid ((j : Int) ≤ wholes s h now) ∧ wr = (w.alloc (.cells #[.int .i64 (fit s.p / 2 ^ j), .int .i64 (fit s.a + j * 1)] 28)).alloc (.cells #[.int .i64 0, .int .i64 0] 28)) (fun wr => (1099511627777 - intOf ((wr.cell? ⟨w.heap.size, 1, none⟩).getD (.int .i64 0))).toNat)
    case atStart => exact ⟨0, Lib.hid (wholes_nn s h now), by simp⟩
    case round =>
      obtain ⟨j, HJ, rfl⟩ := hrel
      obtain ⟨b0, b1, e1, e2, k1, k2, k3⟩ := KL.out j HJ.out
      clear KL
      have E1 := Lib.hid (e1.symm)
      have E2 := Lib.hid (e2.symm)
      clear e1 e2
      generalize fit s.p / 2 ^ j = p at *
      generalize fit s.a + j * 1 = a at *
      by_cases c1 : 0 < p
      · by_cases c2 : 1 ≤ fit now - a
        · have K1 := Lib.hid (k1 c2)
          clear k1 k2 k3
          go_wp2_with fail
          go_roundw
          case rel => exact ⟨j + 1, K1, by rw [E1.out, E2.out]⟩
          case measure => simp [intOf, go_sem]; omega
        · have HD := Lib.hid (k2 c2)
          clear k1 k2 k3
          go_wp2_with fail
          exact bodyPost_ret (v := .agg #[.int .i64 p, .int .i64 a]) (by simp [results, Try.results36, go_sem]) rfl ⟨by rw [HD.out], LOW _ _⟩
      · obtain rfl : p = 0 := by omega
        by_cases c2 : 1 ≤ fit now - a
        · have HD := Lib.hid (k3 c2 rfl)
          clear k1 k2 k3
          have hr := Int.emod_nonneg (fit now - a) (show (1 : Int) ≠ 0 by omega)
          have hr2 := Int.emod_lt_of_pos (fit now - a) (show (0 : Int) < 1 by omega)
          go_wp2_with fail
          exact bodyPost_ret (v := .agg #[.int .i64 0, .int .i64 (fit now - (fit now - a) % 1)]) (by simp [results, Try.results36, go_sem]) rfl ⟨by rw [HD.out], LOW _ _⟩
        · have HD := Lib.hid (k2 c2)
          clear k1 k2 k3
          go_wp2_with fail
          exact bodyPost_ret (v := .agg #[.int .i64 0, .int .i64 a]) (by simp [results, Try.results36, go_sem]) rfl ⟨by rw [HD.out], LOW _ _⟩
  · have HL : lifeH h = h := by unfold lifeH; rw [if_neg (by omega), if_neg (by omega)]
    have KL := Lib.hid (life_is HL s now)
    have LOW : ∀ o p, Below w.heap.size w ((w.alloc o).alloc p) := fun o p => ((Below.refl _ _).alloc (Nat.le_refl _) o).alloc (by simp) p
    go_loopw [] (fun wr => ∃ j : Nat, Hid ((j : Int) ≤ wholes s h now) ∧ wr = (w.alloc (.cells #[.int .i64 (fit s.p / 2 ^ j), .int .i64 (fit s.a + j * h)] 28)).alloc (.cells #[.int .i64 0, .int .i64 0] 28)) (fun wr => (1099511627777 - intOf ((wr.cell? ⟨w.heap.size, 1, none⟩).getD (.int .i64 0))).toNat)
    case atStart => exact ⟨0, Lib.hid (wholes_nn s h now), by simp⟩
    case round =>
      obtain ⟨j, HJ, rfl⟩ := hrel
      obtain ⟨b0, b1, e1, e2, k1, k2, k3⟩ := KL.out j HJ.out
      clear KL
      have E1 := Lib.hid (e1.symm)
      have E2 := Lib.hid (e2.symm)
      clear e1 e2
      generalize fit s.p / 2 ^ j = p at *
      generalize fit s.a + j * h = a at *
      by_cases c1 : 0 < p
      · by_cases c2 : h ≤ fit now - a
        · have K1 := Lib.hid (k1 c2)
          clear k1 k2 k3
          go_wp2_with fail
          go_roundw
          case rel => exact ⟨j + 1, K1, by rw [E1.out, E2.out]⟩
          case measure => simp [intOf, go_sem]; omega
        · have HD := Lib.hid (k2 c2)
          clear k1 k2 k3
          go_wp2_with fail
          exact bodyPost_ret (v := .agg #[.int .i64 p, .int .i64 a]) (by simp [results, Try.results36, go_sem]) rfl ⟨by rw [HD.out], LOW _ _⟩
      · obtain rfl : p = 0 := by omega
        by_cases c2 : h ≤ fit now - a
        · have HD := Lib.hid (k3 c2 rfl)
          clear k1 k2 k3
          have hr := Int.emod_nonneg (fit now - a) (show (h : Int) ≠ 0 by omega)
          have hr2 := Int.emod_lt_of_pos (fit now - a) (show (0 : Int) < h by omega)
          go_wp2_with fail
          exact bodyPost_ret (v := .agg #[.int .i64 0, .int .i64 (fit now - (fit now - a) % h)]) (by simp [results, Try.results36, go_sem]) rfl ⟨by rw [HD.out], LOW _ _⟩
        · have HD := Lib.hid (k2 c2)
          clear k1 k2 k3
          go_wp2_with fail
          exact bodyPost_ret (v := .agg #[.int .i64 0, .int .i64 a]) (by simp [results, Try.results36, go_sem]) rfl ⟨by rw [HD.out], LOW _ _⟩
  · have HL : lifeH h = 1073741824 := by unfold lifeH; rw [if_neg (by omega), if_pos (by omega)]
    have KL := Lib.hid (life_is HL s now)
    have LOW : ∀ o p, Below w.heap.size w ((w.alloc o).alloc p) := fun o p => ((Below.refl _ _).alloc (Nat.le_refl _) o).alloc (by simp) p
    go_loopw [] (fun wr => ∃ j : Nat, Hid ((j : Int) ≤ wholes s h now) ∧ wr = (w.alloc (.cells #[.int .i64 (fit s.p / 2 ^ j), .int .i64 (fit s.a + j * 1073741824)] 28)).alloc (.cells #[.int .i64 0, .int .i64 0] 28)) (fun wr => (1099511627777 - intOf ((wr.cell? ⟨w.heap.size, 1, none⟩).getD (.int .i64 0))).toNat)
    case atStart => exact ⟨0, Lib.hid (wholes_nn s h now), by simp⟩
    case round =>
      obtain ⟨j, HJ, rfl⟩ := hrel
      obtain ⟨b0, b1, e1, e2, k1, k2, k3⟩ := KL.out j HJ.out
      clear KL
      have E1 := Lib.hid (e1.symm)
      have E2 := Lib.hid (e2.symm)
      clear e1 e2
      generalize fit s.p / 2 ^ j = p at *
      generalize fit s.a + j * 1073741824 = a at *
      by_cases c1 : 0 < p
      · by_cases c2 : 1073741824 ≤ fit now - a
        · have K1 := Lib.hid (k1 c2)
          clear k1 k2 k3
          go_wp2_with fail
          go_roundw
          case rel => exact ⟨j + 1, K1, by rw [E1.out, E2.out]⟩
          case measure => simp [intOf, go_sem]; omega
        · have HD := Lib.hid (k2 c2)
          clear k1 k2 k3
          go_wp2_with fail
          exact bodyPost_ret (v := .agg #[.int .i64 p, .int .i64 a]) (by simp [results, Try.results36, go_sem]) rfl ⟨by rw [HD.out], LOW _ _⟩
      · obtain rfl : p = 0 := by omega
        by_cases c2 : 1073741824 ≤ fit now - a
        · have HD := Lib.hid (k3 c2 rfl)
          clear k1 k2 k3
          have hr := Int.emod_nonneg (fit now - a) (show (1073741824 : Int) ≠ 0 by omega)
          have hr2 := Int.emod_lt_of_pos (fit now - a) (show (0 : Int) < 1073741824 by omega)
          go_wp2_with fail
          exact bodyPost_ret (v := .agg #[.int .i64 0, .int .i64 (fit now - (fit now - a) % 1073741824)]) (by simp [results, Try.results36, go_sem]) rfl ⟨by rw [HD.out], LOW _ _⟩
        · have HD := Lib.hid (k2 c2)
          clear k1 k2 k3
          go_wp2_with fail
          exact bodyPost_ret (v := .agg #[.int .i64 0, .int .i64 a]) (by simp [results, Try.results36, go_sem]) rfl ⟨by rw [HD.out], LOW _ _⟩
theorem eqScore (m n : Sc) (w : World) : (binOp .eql 28 (.agg #[.int .i64 m.p, .int .i64 m.a]) (.agg #[.int .i64 n.p, .int .i64 n.a])).run Try.prog w = .ok (.bool (m.p == n.p && m.a == n.a)) w := by
  have h3 : ∀ w : World, (isAgg 3).run Try.prog w = .ok false w := fun _ => by kernel_rfl
  rw [run_eql_struct, run_equalIn_struct w 9999 _ _ _ (by kernel_rfl) (by kernel_rfl)]
  rw [show (Try.prog.fieldsOf 28).toList = [⟨"Points", 3, 0, false, "", "", 0⟩, ⟨"At", 3, 1, false, "", "", 8⟩] from by kernel_rfl]
  have p0 : ∀ n : Sc, (part 3 #[.int .i64 n.p, .int .i64 n.a] 0).run Try.prog w = .ok (.int .i64 n.p) w := fun n => by simp [part, h3]
  have p1 : ∀ n : Sc, (part 3 #[.int .i64 n.p, .int .i64 n.a] 1).run Try.prog w = .ok (.int .i64 n.a) w := fun n => by simp [part, h3]
  have q1 : ∀ a b : Int, (Op.equalIn 9999 3 (.int .i64 a) (.int .i64 b)).run Try.prog w = .ok (a == b) w := fun a b => run_equalIn_int w 9998 _ _ _ _ _ Try.underlying3
  simp only [Op.eqFields, Sem.run_bind, Sem.run_ite, p0, p1, q1, Result.andThen_ok]
  cases (m.p == n.p) <;> cases (m.a == n.a) <;> simp
theorem eq_self (m : Sc) (w : World) : (binOp .eql 28 (.agg #[.int .i64 m.p, .int .i64 m.a]) (.agg #[.int .i64 m.p, .int .i64 m.a])).run Try.prog w = .ok (.bool true) w := by
  rw [eqScore]; simp
end Go.Proofs.Ytdlbhcakfciagaa.Ha
