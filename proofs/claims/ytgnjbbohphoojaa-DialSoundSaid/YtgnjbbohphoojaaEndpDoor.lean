/- An end that came in; ends compared. -/
import Derived.Test.YtgnjbbohphoojaaCidrDoor
import Derived.Test.YtgnjbbohphoojaaRef09All
import Derived.Test.YtgnjbbohphoojaaCidrAll
namespace Go.Proofs.Ytgnjbbohphoojaa
set_option maxRecDepth 100000
open Go.ChangeShapes Go.WideShapes Go.ChangeAt Go.RowKit
open Ad Ci En Go.Deep
set_option linter.unusedVariables false
section
variable {H : Type} {enc : TypeId × Value → H} {P : Program}
theorem open_end {W : World} {t ta tb tu ti : TypeId} {f0 f1 g0 g1 g2 : Field} {v : Value} {d : DataW H} {ps : List MemPlace} {r : Reach} {b0 : Nat}
    (hs : P.underlying t = some (.struct #[f0, f1])) (ea : f0.type = ta) (ei : f1.type = ti) (ha : P.underlying ta = some (.struct #[g0, g1, g2])) (hone : oneCellFields P #[g0, g1, g2] = true)
    (o0 : f0.offset = 0) (o1 : f1.offset = 3) (hca : P.cellsOf ta = 3) (hci : P.cellsOf ti = 1) (hC : P.cellsOf t = 4)
    (e0 : g0.type = tb) (e1 : g1.type = tu) (e2 : g2.type = tu) (hb : P.underlying tb = some .bool) (hu : P.underlying tu = some (.int .u64)) (hi : P.underlying ti = some (.int .i64))
    (hval : Value.okWide P W r b0 t v) (h : DataW.Trod enc P W 0 (fun _ => true) true t v d ps) :
    ∃ n : Endp, n.ok ∧ v = .agg #[.bool n.a.v6, .int .u64 n.a.hi, .int .u64 n.a.lo, .int .i64 n.n] ∧ d = .agg [.agg [.lit (.bool n.a.v6), .lit (.int .u64 n.a.hi), .lit (.int .u64 n.a.lo)], .lit (.int .i64 n.n)] ∧ ps = [] := by
  obtain ⟨n, h1, h2, h3, h4⟩ := open_net hs ea ei ha hone o0 o1 hca hci hC e0 e1 e2 hb hu hi hval h
  exact ⟨⟨n.a, n.n⟩, h1, h2, h3, h4⟩
end
theorem eqEnd (m n : Endp) (w : World) : (binOp .eql 33 (.agg #[.bool m.a.v6, .int .u64 m.a.hi, .int .u64 m.a.lo, .int .i64 m.n]) (.agg #[.bool n.a.v6, .int .u64 n.a.hi, .int .u64 n.a.lo, .int .i64 n.n])).run Try.prog w = .ok (.bool (sameE m n)) w := by
  have hA : ∀ w : World, (isAgg 31).run Try.prog w = .ok true w := fun _ => by kernel_rfl
  have hz : ∀ w : World, (sizeOf 31).run Try.prog w = .ok 3 w := fun _ => by kernel_rfl
  have h3 : ∀ w : World, (isAgg 3).run Try.prog w = .ok false w := fun _ => by kernel_rfl
  rw [run_eql_struct, run_equalIn_struct w 9999 _ _ _ (by kernel_rfl) (by kernel_rfl)]
  rw [show (Try.prog.fieldsOf 33).toList = [⟨"Addr", 31, 0, false, "", "", 0⟩, ⟨"Port", 3, 3, false, "", "", 24⟩] from by kernel_rfl]
  have p0 : ∀ n : Endp, (part 31 #[.bool n.a.v6, .int .u64 n.a.hi, .int .u64 n.a.lo, .int .i64 n.n] 0).run Try.prog w = .ok (.agg #[.bool n.a.v6, .int .u64 n.a.hi, .int .u64 n.a.lo]) w := fun n => by simp [part, hA, hz]
  have p1 : ∀ n : Endp, (part 3 #[.bool n.a.v6, .int .u64 n.a.hi, .int .u64 n.a.lo, .int .i64 n.n] 3).run Try.prog w = .ok (.int .i64 n.n) w := fun n => part_one w _ _ _ _ (h3 w) rfl
  have q0 := eqInAdr 9997 m.a n.a w
  have q1 : (Op.equalIn 9999 3 (.int .i64 m.n) (.int .i64 n.n)).run Try.prog w = .ok (m.n == n.n) w := run_equalIn_int w 9998 _ _ _ _ _ Try.underlying3
  simp only [Op.eqFields, Sem.run_bind, Sem.run_ite, p0, p1, q0, q1, Result.andThen_ok, sameE]
  cases (sameA m.a n.a) <;> cases (m.n == n.n) <;> simp
/-- Ends, inside of a struct. -/
theorem eqInEnd (d : Nat) (m n : Endp) (w : World) : (Op.equalIn (d + 3) 33 (.agg #[.bool m.a.v6, .int .u64 m.a.hi, .int .u64 m.a.lo, .int .i64 m.n]) (.agg #[.bool n.a.v6, .int .u64 n.a.hi, .int .u64 n.a.lo, .int .i64 n.n])).run Try.prog w = .ok (sameE m n) w := by
  have hA : ∀ w : World, (isAgg 31).run Try.prog w = .ok true w := fun _ => by kernel_rfl
  have hz : ∀ w : World, (sizeOf 31).run Try.prog w = .ok 3 w := fun _ => by kernel_rfl
  have h3 : ∀ w : World, (isAgg 3).run Try.prog w = .ok false w := fun _ => by kernel_rfl
  rw [run_equalIn_struct w (d + 2) _ _ _ (by kernel_rfl) (by kernel_rfl)]
  rw [show (Try.prog.fieldsOf 33).toList = [⟨"Addr", 31, 0, false, "", "", 0⟩, ⟨"Port", 3, 3, false, "", "", 24⟩] from by kernel_rfl]
  have p0 : ∀ n : Endp, (part 31 #[.bool n.a.v6, .int .u64 n.a.hi, .int .u64 n.a.lo, .int .i64 n.n] 0).run Try.prog w = .ok (.agg #[.bool n.a.v6, .int .u64 n.a.hi, .int .u64 n.a.lo]) w := fun n => by simp [part, hA, hz]
  have p1 : ∀ n : Endp, (part 3 #[.bool n.a.v6, .int .u64 n.a.hi, .int .u64 n.a.lo, .int .i64 n.n] 3).run Try.prog w = .ok (.int .i64 n.n) w := fun n => part_one w _ _ _ _ (h3 w) rfl
  have q0 := eqInAdr d m.a n.a w
  have q1 : (Op.equalIn (d + 2) 3 (.int .i64 m.n) (.int .i64 n.n)).run Try.prog w = .ok (m.n == n.n) w := run_equalIn_int w (d + 1) _ _ _ _ _ Try.underlying3
  simp only [Op.eqFields, Sem.run_bind, Sem.run_ite, p0, p1, q0, q1, Result.andThen_ok, sameE]
  cases (sameA m.a n.a) <;> cases (m.n == n.n) <;> simp
theorem neqEnd (m n : Endp) (w : World) : (binOp .neq 33 (.agg #[.bool m.a.v6, .int .u64 m.a.hi, .int .u64 m.a.lo, .int .i64 m.n]) (.agg #[.bool n.a.v6, .int .u64 n.a.hi, .int .u64 n.a.lo, .int .i64 n.n])).run Try.prog w = .ok (.bool (!sameE m n)) w := by
  have h := eqEnd m n w
  rw [run_eql_struct] at h
  rw [run_neq_struct]
  generalize (Op.equalIn 10000 33 (.agg #[.bool m.a.v6, .int .u64 m.a.hi, .int .u64 m.a.lo, .int .i64 m.n]) (.agg #[.bool n.a.v6, .int .u64 n.a.hi, .int .u64 n.a.lo, .int .i64 n.n])).run Try.prog w = r at h
  cases r with
  | ok x w' =>
    simp only [Result.andThen_ok, Result.ok.injEq, Value.bool.injEq] at h ⊢
    obtain ⟨rfl, rfl⟩ := h
    exact ⟨rfl, rfl⟩
  | halt x w' => cases h
theorem same_selfE (x : Endp) : sameE x x = true := (sameE_iff x x).2 rfl
theorem end_is {x : Endp} {v : Bool} {h l : Nat} {i : Int} (h1 : x.a.v6 = v) (h2 : x.a.hi = h) (h3 : x.a.lo = l) (h4 : x.n = i) : x = ⟨⟨v, h, l⟩, i⟩ := by
  obtain ⟨⟨a, b, c⟩, d⟩ := x
  simp only [] at h1 h2 h3 h4
  subst h1 h2 h3 h4; rfl
end Go.Proofs.Ytgnjbbohphoojaa
