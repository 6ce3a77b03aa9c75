/- Contracts of package cidr: what is made, masked, written. -/
import Derived.Test.YtdlbhcakfciagaaCidrKit
namespace Go.Proofs.Ytdlbhcakfciagaa.Ci
set_option maxRecDepth 100000
open Go.ChangeShapes Go.WideShapes Go.ChangeAt Go.RowKit
open Dec Words V4 V6 Ad
set_option linter.unusedVariables false
theorem shr_keep (x y : Nat) (hx : x < 18446744073709551616) : Op.shift .shr .u64 (x : Int) .i64 (y : Int) = pure (.int .u64 ((x / 2 ^ y : Nat) : Int)) := by
  have hp : (0 : Int) ≤ 2 ^ min y 64 := Int.pow_nonneg (by decide)
  have e : (x : Int).fdiv (2 ^ min y 64) = ((x / 2 ^ y : Nat) : Int) := by
    rw [Int.fdiv_eq_ediv_of_nonneg _ hp]
    by_cases h : y ≤ 64
    · rw [Nat.min_eq_left h]; norm_cast
    · rw [Nat.min_eq_right (by omega), Nat.div_eq_of_lt (Nat.lt_of_lt_of_le hx (Nat.pow_le_pow_right (n := 2) (i := 64) (by omega) (by omega)))]
      have : ((2 : Int) ^ 64) = 18446744073709551616 := by decide
      rw [this]; omega
  have hn : ¬ (y : Int) < 0 := by omega
  simp only [Op.shift, if_neg hn, Int.toNat_natCast, IntKind.bits]
  rw [e]
theorem shl_keep (x y : Nat) (hx : x < 18446744073709551616) : Op.shift .shl .u64 ((x / 2 ^ y : Nat) : Int) .i64 (y : Int) = pure (.int .u64 ((keep x y : Nat) : Int)) := by
  have hk := keep_le x y
  have e : IntKind.u64.wrap (((x / 2 ^ y : Nat) : Int) * 2 ^ min y 64) = ((keep x y : Nat) : Int) := by
    rw [IntKind.wrap_u64]
    by_cases h : y ≤ 64
    · rw [Nat.min_eq_left h]
      have : ((x / 2 ^ y : Nat) : Int) * 2 ^ y = ((keep x y : Nat) : Int) := by unfold keep; norm_cast
      rw [this]; omega
    · have h0 : x < 2 ^ y := Nat.lt_of_lt_of_le hx (Nat.pow_le_pow_right (n := 2) (i := 64) (by omega) (by omega))
      rw [keep_low h0, Nat.div_eq_of_lt h0]; simp
  have hn : ¬ (y : Int) < 0 := by omega
  simp only [Op.shift, if_neg hn, Int.toNat_natCast, IntKind.bits]
  rw [e]
theorem eqInAdr (d : Nat) (a b : Adr) (w : World) : (Op.equalIn (d + 2) 24 (.agg #[.bool a.v6, .int .u64 a.hi, .int .u64 a.lo]) (.agg #[.bool b.v6, .int .u64 b.hi, .int .u64 b.lo])).run Try.prog w = .ok (sameA a b) w := by
  have h4 : ∀ w : World, (isAgg 4).run Try.prog w = .ok false w := fun _ => by kernel_rfl
  have h22 : ∀ w : World, (isAgg 22).run Try.prog w = .ok false w := fun _ => by kernel_rfl
  rw [run_equalIn_struct w (d + 1) _ _ _ (by kernel_rfl) (by kernel_rfl)]
  rw [show (Try.prog.fieldsOf 24).toList = [⟨"V6", 4, 0, false, "", "", 0⟩, ⟨"Hi", 22, 1, false, "", "", 8⟩, ⟨"Lo", 22, 2, false, "", "", 16⟩] from by kernel_rfl]
  have p0 : ∀ a : Adr, (part 4 #[.bool a.v6, .int .u64 a.hi, .int .u64 a.lo] 0).run Try.prog w = .ok (.bool a.v6) w := fun a => part_one w _ _ _ _ (h4 w) rfl
  have p1 : ∀ a : Adr, (part 22 #[.bool a.v6, .int .u64 a.hi, .int .u64 a.lo] 1).run Try.prog w = .ok (.int .u64 a.hi) w := fun a => part_one w _ _ _ _ (h22 w) rfl
  have p2 : ∀ a : Adr, (part 22 #[.bool a.v6, .int .u64 a.hi, .int .u64 a.lo] 2).run Try.prog w = .ok (.int .u64 a.lo) w := fun a => part_one w _ _ _ _ (h22 w) rfl
  have q0 : (Op.equalIn (d + 1) 4 (.bool a.v6) (.bool b.v6)).run Try.prog w = .ok (a.v6 == b.v6) w := run_equalIn_bool' w d _ _ _ Try.underlying4
  have q1 : (Op.equalIn (d + 1) 22 (.int .u64 a.hi) (.int .u64 b.hi)).run Try.prog w = .ok (a.hi == b.hi) w := by rw [run_equalIn_int w d _ _ _ _ _ Try.underlying22, nat_beq]
  have q2 : (Op.equalIn (d + 1) 22 (.int .u64 a.lo) (.int .u64 b.lo)).run Try.prog w = .ok (a.lo == b.lo) w := by rw [run_equalIn_int w d _ _ _ _ _ Try.underlying22, nat_beq]
  simp only [Op.eqFields, Sem.run_bind, Sem.run_ite, p0, p1, p2, q0, q1, q2, Result.andThen_ok, sameA]
  cases (a.v6 == b.v6) <;> cases (a.hi == b.hi) <;> cases (a.lo == b.lo) <;> simp
end Go.Proofs.Ytdlbhcakfciagaa.Ci

namespace Go.Proofs.Ytdlbhcakfciagaa.Ci
set_option maxRecDepth 100000
open Go.ChangeShapes Go.WideShapes Go.ChangeAt Go.RowKit
open Dec Words V4 V6 Ad
set_option linter.unusedVariables false
end Go.Proofs.Ytdlbhcakfciagaa.Ci

namespace Go.Proofs.Ytdlbhcakfciagaa.Ci
set_option maxRecDepth 100000
open Go.ChangeShapes Go.WideShapes Go.ChangeAt Go.RowKit
open Dec Words V4 V6 Ad
set_option linter.unusedVariables false
theorem mfrozen_left {W w' : World} (h : Below W.heap.size W w') {b o : Nat} (hl : b < W.heap.size) (hc : W.frozen? ⟨b, o, none⟩ = false) : w'.frozen? ⟨b, o, none⟩ = false := ((old h).2 b o hl).trans hc
abbrev SM (a : Adr) (w : World) (w' : World) : Prop := w'.cell? ⟨w.heap.size, 0, none⟩ = some (.bool a.v6) ∧ w'.cell? ⟨w.heap.size, 1, none⟩ = some (.int .u64 a.hi) ∧ w'.cell? ⟨w.heap.size, 2, none⟩ = some (.int .u64 a.lo) ∧ w'.cell? ⟨w.heap.size + 1, 0, none⟩ = some (.bool false) ∧ w'.cell? ⟨w.heap.size + 1, 1, none⟩ = some (.int .u64 0) ∧ w'.cell? ⟨w.heap.size + 1, 2, none⟩ = some (.int .u64 0) ∧ w'.frozen? ⟨w.heap.size + 1, 0, none⟩ = false ∧ w'.frozen? ⟨w.heap.size + 1, 1, none⟩ = false ∧ w'.frozen? ⟨w.heap.size + 1, 2, none⟩ = false ∧ Stays ((w.alloc (.cells #[.bool a.v6, .int .u64 a.hi, .int .u64 a.lo] 24)).alloc (.cells #[.bool false, .int .u64 0, .int .u64 0] 24)) w'
theorem SM.of {a : Adr} {w w' : World} (h : Stays ((w.alloc (.cells #[.bool a.v6, .int .u64 a.hi, .int .u64 a.lo] 24)).alloc (.cells #[.bool false, .int .u64 0, .int .u64 0] 24)) w') : SM a w w' := ⟨cells_left h (by simp [go_sem]), cells_left h (by simp [go_sem]), cells_left h (by simp [go_sem]), cells_left h (by simp [go_sem]), cells_left h (by simp [go_sem]), cells_left h (by simp [go_sem]), mfrozen_left h (by simp) (by simp [go_sem]), mfrozen_left h (by simp) (by simp [go_sem]), mfrozen_left h (by simp) (by simp [go_sem]), h⟩
end Go.Proofs.Ytdlbhcakfciagaa.Ci

namespace Go.Proofs.Ytdlbhcakfciagaa.Ci
set_option maxRecDepth 100000
open Go.ChangeShapes Go.WideShapes Go.ChangeAt Go.RowKit
open Dec Words V4 V6 Ad
set_option linter.unusedVariables false
end Go.Proofs.Ytdlbhcakfciagaa.Ci
