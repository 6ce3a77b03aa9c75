/- Contracts of package addr: what needs no text. -/
import Derived.Test.YtbpmdeonahdfiaaMath
import Derived.Test.YtbpmdeonahdfiaaKit
import Derived.Laws.StructEq
import Derived.Laws.BitsAllLaws
import Derived.Deep.RegionHeld3
import Derived.Outline
import Derived.Test.YtbpmdeonahdfiaaIpv6All
namespace Go.Proofs.Ytbpmdeonahdfiaa.Ad
set_option maxRecDepth 100000
open Go.ChangeShapes Go.WideShapes Go.ChangeAt Go.RowKit
set_option linter.unusedVariables false
theorem part_one {P : Program} (w : World) (t : TypeId) (cs : Array Value) (o : Nat) (v : Value) (h : (isAgg t).run P w = .ok false w) (hv : cs[o]? = some v) : (part t cs o).run P w = .ok v w := by
  simp [part, h, hv]
theorem nat_beq (m n : Nat) : ((m : Int) == (n : Int)) = (m == n) := by rw [Bool.eq_iff_iff, beq_iff_eq, beq_iff_eq]; omega
theorem eqAdr (a b : Adr) (w : World) : (binOp .eql 25 (.agg #[.bool a.v6, .int .u64 a.hi, .int .u64 a.lo]) (.agg #[.bool b.v6, .int .u64 b.hi, .int .u64 b.lo])).run Try.prog w = .ok (.bool (sameA a b)) w := by
  have h4 : ∀ w : World, (isAgg 4).run Try.prog w = .ok false w := fun _ => by kernel_rfl
  have h22 : ∀ w : World, (isAgg 22).run Try.prog w = .ok false w := fun _ => by kernel_rfl
  rw [run_eql_struct, run_equalIn_struct w 9999 _ _ _ (by kernel_rfl) (by kernel_rfl)]
  rw [show (Try.prog.fieldsOf 25).toList = [⟨"V6", 4, 0, false, "", "", 0⟩, ⟨"Hi", 22, 1, false, "", "", 8⟩, ⟨"Lo", 22, 2, false, "", "", 16⟩] from by kernel_rfl]
  have p0 : ∀ a : Adr, (part 4 #[.bool a.v6, .int .u64 a.hi, .int .u64 a.lo] 0).run Try.prog w = .ok (.bool a.v6) w := fun a => part_one w _ _ _ _ (h4 w) rfl
  have p1 : ∀ a : Adr, (part 22 #[.bool a.v6, .int .u64 a.hi, .int .u64 a.lo] 1).run Try.prog w = .ok (.int .u64 a.hi) w := fun a => part_one w _ _ _ _ (h22 w) rfl
  have p2 : ∀ a : Adr, (part 22 #[.bool a.v6, .int .u64 a.hi, .int .u64 a.lo] 2).run Try.prog w = .ok (.int .u64 a.lo) w := fun a => part_one w _ _ _ _ (h22 w) rfl
  have q0 : (Op.equalIn 9999 4 (.bool a.v6) (.bool b.v6)).run Try.prog w = .ok (a.v6 == b.v6) w := run_equalIn_bool' w 9998 _ _ _ Try.underlying4
  have q1 : (Op.equalIn 9999 22 (.int .u64 a.hi) (.int .u64 b.hi)).run Try.prog w = .ok (a.hi == b.hi) w := by rw [run_equalIn_int w 9998 _ _ _ _ _ Try.underlying22, nat_beq]
  have q2 : (Op.equalIn 9999 22 (.int .u64 a.lo) (.int .u64 b.lo)).run Try.prog w = .ok (a.lo == b.lo) w := by rw [run_equalIn_int w 9998 _ _ _ _ _ Try.underlying22, nat_beq]
  simp only [Op.eqFields, Sem.run_bind, Sem.run_ite, p0, p1, p2, q0, q1, q2, Result.andThen_ok, sameA]
  cases (a.v6 == b.v6) <;> cases (a.hi == b.hi) <;> cases (a.lo == b.lo) <;> simp
theorem bbn {x y : Bool} (h : x ≠ y) : (x == y) = false ∧ (x != y) = true ∧ (!(x == y)) = true := by cases x <;> cases y <;> simp at h ⊢
theorem bby {x y : Bool} (h : x = y) : (x == y) = true ∧ (x != y) = false ∧ (!(x == y)) = false := by subst h; cases x <;> simp
theorem iin {x y : Nat} (h : x ≠ y) : ((x : Int) == (y : Int)) = false ∧ ((x : Int) != (y : Int)) = true := by
  rw [beq_eq_false_iff_ne, bne_iff_ne]; omega
theorem iiy {x y : Nat} (h : x = y) : ((x : Int) == (y : Int)) = true ∧ ((x : Int) != (y : Int)) = false := by
  subst h; simp
theorem two_low (w : World) (o p : Obj) : Below w.heap.size w ((w.alloc o).alloc p) := ((Below.refl w.heap.size w).alloc (Nat.le_refl _) o).alloc (by simp) p
theorem v6A_no {hi lo : Nat} (h : stands hi lo = false) : v6A hi lo = ⟨true, hi, lo⟩ := v6A_same h
theorem v6A_yes {hi lo : Nat} (h : stands hi lo = true) : v6A hi lo = ⟨false, 0, lo % 4294967296⟩ := by unfold v6A; rw [h]; rfl
theorem bit_one (n i : Nat) (h : n < 18446744073709551616) : wrap64 (bits .and .u64 ((n : Int) / 2 ^ i) 1) = ((n / 2 ^ i % 2 : Nat) : Int) := by
  have h3 : n / 2 ^ i < 18446744073709551616 := Nat.lt_of_le_of_lt (Nat.div_le_self _ _) h
  have e := u64_and_nat (n / 2 ^ i) 1 h3 (by omega)
  rw [show ((1 : Nat) : Int) = 1 from rfl] at e
  rw [show ((n : Int) / 2 ^ i) = ((n / 2 ^ i : Nat) : Int) from by rw [Int.natCast_ediv, Int.natCast_pow]; rfl, e, Nat.and_one_is_mod]
  unfold wrap64; omega
end Go.Proofs.Ytbpmdeonahdfiaa.Ad
/- Contract of package addr: may an address be? -/
namespace Go.Proofs.Ytbpmdeonahdfiaa.Ad
set_option maxRecDepth 100000
open Go.ChangeShapes Go.WideShapes Go.ChangeAt Go.RowKit
set_option linter.unusedVariables false
theorem right_six (hi lo : Nat) : rightA ⟨true, hi, lo⟩ = sameA ⟨true, hi, lo⟩ (v6A hi lo) := by
  unfold rightA v6A
  cases stands hi lo <;> simp [sameA]
theorem right_four (hi lo : Nat) : rightA ⟨false, hi, lo⟩ = sameA ⟨false, hi, lo⟩ (v4A (lo % 4294967296)) := by
  unfold rightA v4A sameA
  rw [Bool.eq_iff_iff]
  simp only [Bool.false_eq_true, if_false, Bool.and_eq_true, decide_eq_true_eq, beq_iff_eq, beq_self_eq_true, true_and]
  omega
/-- What is left of a world in which an address was laid. -/
def Stays (W w : World) : Prop := Below W.heap.size W w
abbrev Boxed (v : Bool) (hi lo : Nat) (w W : World) : Prop := W.cell? ⟨w.heap.size, 0, none⟩ = some (.bool v) ∧ W.cell? ⟨w.heap.size, 1, none⟩ = some (.int .u64 hi) ∧ W.cell? ⟨w.heap.size, 2, none⟩ = some (.int .u64 lo) ∧ Stays (w.alloc (.cells #[.bool v, .int .u64 hi, .int .u64 lo] 25)) W
theorem box_left {v : Bool} {hi lo : Nat} {w W : World} (h : Stays (w.alloc (.cells #[.bool v, .int .u64 hi, .int .u64 lo] 25)) W) :
    W.cell? ⟨w.heap.size, 0, none⟩ = some (.bool v) ∧ W.cell? ⟨w.heap.size, 1, none⟩ = some (.int .u64 hi) ∧ W.cell? ⟨w.heap.size, 2, none⟩ = some (.int .u64 lo) ∧ Stays (w.alloc (.cells #[.bool v, .int .u64 hi, .int .u64 lo] 25)) W := by
  obtain ⟨hc, _⟩ := old h
  refine ⟨?_, ?_, ?_, h⟩ <;> (rw [hc _ _ (by simp), cell_of_row _ _ _ _ _ _ (heap_alloc_new w _)]; rfl)
end Go.Proofs.Ytbpmdeonahdfiaa.Ad
/- Contracts of package addr: texts, and the order. -/
namespace Go.Proofs.Ytbpmdeonahdfiaa.Ad
set_option maxRecDepth 100000
open Go.ChangeShapes Go.WideShapes Go.ChangeAt Go.RowKit
open Dec Words V4 V6
set_option linter.unusedVariables false
def ParseA (l : List UInt8) (w : World) (e : Ending) (w' : World) : Prop := e = .returned (.tuple #[.agg #[.bool (parseA l).v6, .int .u64 (parseA l).hi, .int .u64 (parseA l).lo], .bool (okA l)]) ∧ Below w.heap.size w w'
theorem parseA_mk {l : List UInt8} {w w' : World} {e : Ending} {a : Adr} {b : Bool} (ha : parseA l = a) (hb : okA l = b) (he : e = .returned (.tuple #[.agg #[.bool a.v6, .int .u64 a.hi, .int .u64 a.lo], .bool b])) (h : Below w.heap.size w w') : ParseA l w e w' := by
  subst ha hb; exact ⟨he, h⟩
end Go.Proofs.Ytbpmdeonahdfiaa.Ad
