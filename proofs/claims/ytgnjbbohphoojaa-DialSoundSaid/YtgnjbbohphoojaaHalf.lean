/- Contracts of package half and of its document's answers. -/
import Derived.Test.YtgnjbbohphoojaaSat
import Derived.Test.YtgnjbbohphoojaaKit
import Derived.Lib.MinMax
import Derived.Laws.StructEq
namespace Go.Proofs.Ytgnjbbohphoojaa.Ha
set_option maxRecDepth 100000
open Go.ChangeShapes Go.WideShapes Go.ChangeAt Go.RowKit
open Sat
set_option linter.unusedVariables false
theorem shr_int (P k : Int) (h0 : 0 ≤ P) (h1 : P ≤ 1099511627776) (hk : 0 ≤ k) : Op.shift .shr .i64 P .i64 k = pure (.int .i64 (P / 2 ^ k.toNat)) := by
  have e : P / 2 ^ min k.toNat 64 = P / 2 ^ k.toNat := by
    by_cases h : 64 ≤ k.toNat
    · have hp : (2 : Int) ^ 64 ≤ 2 ^ k.toNat := by
        have := Nat.pow_le_pow_right (n := 2) (by omega) h
        have e1 : ((2 ^ 64 : Nat) : Int) = 2 ^ 64 := by rfl
        have e2 : ((2 ^ k.toNat : Nat) : Int) = 2 ^ k.toNat := by simp
        omega
      rw [show min k.toNat 64 = 64 by omega, Int.ediv_eq_zero_of_lt h0 (by omega), Int.ediv_eq_zero_of_lt h0 (by omega)]
    · rw [show min k.toNat 64 = k.toNat by omega]
  unfold Op.shift
  rw [if_neg (by omega)]
  simp only [IntKind.bits]
  rw [Int.fdiv_eq_ediv_of_nonneg _ (Int.le_of_lt (pow_pos' _)), e]
theorem field_p (p a : Int) (w : World) : (Instr.field 48 (.agg #[.int .i64 p, .int .i64 a]) 0).run Try.prog w = .ok (.int .i64 p) w := by kernel_rfl
theorem life_is {h m : Int} (e : lifeH h = m) (s : Sc) (now : Int) (j : Nat) (hj : (j : Int) ≤ wholes s h now) :
    (0 ≤ fit s.p / 2 ^ j ∧ fit s.p / 2 ^ j ≤ 1099511627776) ∧ (0 ≤ fit s.a + j * m ∧ fit s.a + j * m ≤ 1099511627776) ∧ (fit s.p / 2 ^ j / 2 = fit s.p / 2 ^ (j + 1)) ∧ (fit s.a + j * m + m = fit s.a + ((j + 1 : Nat) : Int) * m)
    ∧ (m ≤ fit now - (fit s.a + j * m) → ((j + 1 : Nat) : Int) ≤ wholes s h now)
    ∧ (¬ m ≤ fit now - (fit s.a + j * m) → decayS s h now = ⟨fit s.p / 2 ^ j, fit s.a + j * m⟩)
    ∧ (m ≤ fit now - (fit s.a + j * m) → fit s.p / 2 ^ j = 0 → decayS s h now = ⟨0, fit now - (fit now - (fit s.a + j * m)) % m⟩) := by
  subst e
  have hp := part_bd (fit s.p) (fit_bd s.p).1 j
  have hP := fit_bd s.p
  have hA := fit_bd s.a
  have hL := life_bd h
  have hd := decay_at s h now
  have hm : (j : Int) * lifeH h ≤ wholes s h now * lifeH h := Int.mul_le_mul_of_nonneg_right hj (by omega)
  have h0 : 0 ≤ (j : Int) * lifeH h := Int.mul_nonneg (by omega) (by omega)
  have hd2 : fit s.a + wholes s h now * lifeH h ≤ 1099511627776 := hd.2
  refine ⟨⟨hp.1, by omega⟩, ⟨by omega, by omega⟩, half_more _ hP.1 j, ?_, fun hl => wholes_next s h now j hl, fun hl => ?_, fun hl hz => ?_⟩
  · rw [Int.natCast_add, Int.add_mul]; simp; omega
  · have e := wholes_last s h now j hj hl
    unfold decayS
    rw [e]
    simp
  · have e1 := none_left s h now j hj hz
    have e2 := wholes_rest s h now j hl
    unfold decayS
    rw [e1, e2]
theorem eqScore (m n : Sc) (w : World) : (binOp .eql 48 (.agg #[.int .i64 m.p, .int .i64 m.a]) (.agg #[.int .i64 n.p, .int .i64 n.a])).run Try.prog w = .ok (.bool (m.p == n.p && m.a == n.a)) w := by
  have h3 : ∀ w : World, (isAgg 3).run Try.prog w = .ok false w := fun _ => by kernel_rfl
  rw [run_eql_struct, run_equalIn_struct w 9999 _ _ _ (by kernel_rfl) (by kernel_rfl)]
  rw [show (Try.prog.fieldsOf 48).toList = [⟨"Points", 3, 0, false, "", "", 0⟩, ⟨"At", 3, 1, false, "", "", 8⟩] from by kernel_rfl]
  have p0 : ∀ n : Sc, (part 3 #[.int .i64 n.p, .int .i64 n.a] 0).run Try.prog w = .ok (.int .i64 n.p) w := fun n => by simp [part, h3]
  have p1 : ∀ n : Sc, (part 3 #[.int .i64 n.p, .int .i64 n.a] 1).run Try.prog w = .ok (.int .i64 n.a) w := fun n => by simp [part, h3]
  have q1 : ∀ a b : Int, (Op.equalIn 9999 3 (.int .i64 a) (.int .i64 b)).run Try.prog w = .ok (a == b) w := fun a b => run_equalIn_int w 9998 _ _ _ _ _ Try.underlying3
  simp only [Op.eqFields, Sem.run_bind, Sem.run_ite, p0, p1, q1, Result.andThen_ok]
  cases (m.p == n.p) <;> cases (m.a == n.a) <;> simp
theorem eq_self (m : Sc) (w : World) : (binOp .eql 48 (.agg #[.int .i64 m.p, .int .i64 m.a]) (.agg #[.int .i64 m.p, .int .i64 m.a])).run Try.prog w = .ok (.bool true) w := by
  rw [eqScore]; simp
end Go.Proofs.Ytgnjbbohphoojaa.Ha
