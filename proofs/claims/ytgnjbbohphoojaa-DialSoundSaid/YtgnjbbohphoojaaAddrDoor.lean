/- An address that came in. -/
import Derived.Test.YtgnjbbohphoojaaDoor
import Derived.Test.YtgnjbbohphoojaaMath
import Derived.Lib.SmallJoins
namespace Go.Proofs.Ytgnjbbohphoojaa
open Go.ChangeShapes Go.WideShapes Go.ChangeAt Go.RowKit
open Ad Go.Deep
section
variable {H : Type} {enc : TypeId × Value → H} {P : Program}
theorem open_adr {W : World} {t tb ti : TypeId} {f0 f1 f2 : Field} {v : Value} {d : DataW H} {ps : List MemPlace} {r : Reach} {b0 : Nat} (hs : P.underlying t = some (.struct #[f0, f1, f2])) (hone : oneCellFields P #[f0, f1, f2] = true) (hC : P.cellsOf t = 3)
    (e0 : f0.type = tb) (e1 : f1.type = ti) (e2 : f2.type = ti) (hb : P.underlying tb = some .bool) (hi : P.underlying ti = some (.int .u64))
    (hval : Value.okWide P W r b0 t v) (h : DataW.Trod enc P W 0 (fun _ => true) true t v d ps) :
    ∃ a : Adr, a.ok ∧ v = .agg #[.bool a.v6, .int .u64 a.hi, .int .u64 a.lo] ∧ d = .agg [.lit (.bool a.v6), .lit (.int .u64 a.hi), .lit (.int .u64 a.lo)] ∧ ps = [] := by
  obtain ⟨v0, v1, v2, y0, y1, y2, n, rfl, rfl, rfl, g0, g1, g2⟩ := Joins.open_agg3 hs hone hC hval h
  rw [e0] at g0
  rw [e1] at g1
  rw [e2] at g2
  obtain ⟨x0, h0, rfl⟩ := DataW.trod_bool hb g0
  obtain ⟨x1, h1, rfl, w1⟩ := DataW.trod_int hi g1
  obtain ⟨x2, h2, rfl, w2⟩ := DataW.trod_int hi g2
  obtain ⟨n1, rfl, z1⟩ := nat_of_u64 w1
  obtain ⟨n2, rfl, z2⟩ := nat_of_u64 w2
  simp only [List.cons.injEq, and_true] at h0 h1 h2
  subst h0 h1 h2
  exact ⟨⟨x0, n1, n2⟩, ⟨z1, z2⟩, rfl, rfl, rfl⟩
end
end Go.Proofs.Ytgnjbbohphoojaa
