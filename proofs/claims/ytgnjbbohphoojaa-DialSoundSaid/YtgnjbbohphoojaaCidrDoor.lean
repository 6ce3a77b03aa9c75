/- A subnet that came in. -/
import Derived.Test.YtgnjbbohphoojaaAddrDoor
import Derived.Test.YtgnjbbohphoojaaMath
namespace Go.Proofs.Ytgnjbbohphoojaa
open Go.ChangeShapes Go.WideShapes Go.ChangeAt Go.RowKit
open Ad Ci Go.Deep
section
variable {H : Type} {enc : TypeId × Value → H} {P : Program}
theorem open_net {W : World} {t ta tb tu ti : TypeId} {f0 f1 g0 g1 g2 : Field} {v : Value} {d : DataW H} {ps : List MemPlace} {r : Reach} {b0 : Nat}
    (hs : P.underlying t = some (.struct #[f0, f1])) (ea : f0.type = ta) (ei : f1.type = ti) (ha : P.underlying ta = some (.struct #[g0, g1, g2])) (hone : oneCellFields P #[g0, g1, g2] = true)
    (o0 : f0.offset = 0) (o1 : f1.offset = 3) (hca : P.cellsOf ta = 3) (hci : P.cellsOf ti = 1) (hC : P.cellsOf t = 4)
    (e0 : g0.type = tb) (e1 : g1.type = tu) (e2 : g2.type = tu) (hb : P.underlying tb = some .bool) (hu : P.underlying tu = some (.int .u64)) (hi : P.underlying ti = some (.int .i64))
    (hval : Value.okWide P W r b0 t v) (h : DataW.Trod enc P W 0 (fun _ => true) true t v d ps) :
    ∃ n : Net, n.ok ∧ v = .agg #[.bool n.a.v6, .int .u64 n.a.hi, .int .u64 n.a.lo, .int .i64 n.n] ∧ d = .agg [.agg [.lit (.bool n.a.v6), .lit (.int .u64 n.a.hi), .lit (.int .u64 n.a.lo)], .lit (.int .i64 n.n)] ∧ ps = [] := by
  obtain ⟨cs, rfl, hsz⟩ := okWide_struct hs hval
  obtain ⟨c0, c1, c2, c3, rfl⟩ := Joins.array4 (hsz.trans hC)
  obtain ⟨fuel, hf⟩ := h
  obtain ⟨y0, y1, n, hx, _, h0, h1⟩ := trod_struct2 hs hf
  rw [ea, o0, hca] at h0
  rw [ei, o1, hci] at h1
  have h0' : DataW.trod enc P W 0 (fun _ => true) true n ta [c0, c1, c2] = some y0 := h0
  have h1' : DataW.trod enc P W 0 (fun _ => true) true n ti [c3] = some y1 := h1
  obtain ⟨z0, z1, z2, m, hz, _, k0, k1, k2⟩ := trod_struct3 ha h0'
  obtain ⟨p0, q0⟩ := hone_of hone 0 g0 rfl
  obtain ⟨p1, q1⟩ := hone_of hone 1 g1 rfl
  obtain ⟨p2, q2⟩ := hone_of hone 2 g2 rfl
  rw [p0, q0, e0] at k0
  rw [p1, q1, e1] at k1
  rw [p2, q2, e2] at k2
  have k0' : DataW.trod enc P W 0 (fun _ => true) true m tb [c0] = some z0 := k0
  have k1' : DataW.trod enc P W 0 (fun _ => true) true m tu [c1] = some z1 := k1
  have k2' : DataW.trod enc P W 0 (fun _ => true) true m tu [c2] = some z2 := k2
  obtain ⟨x0, j0, rfl⟩ := DataW.trod_bool hb k0'
  obtain ⟨x1, j1, rfl, w1⟩ := DataW.trod_int hu k1'
  obtain ⟨x2, j2, rfl, w2⟩ := DataW.trod_int hu k2'
  obtain ⟨x3, j3, rfl, w3⟩ := DataW.trod_int hi h1'
  obtain ⟨n1, rfl, u1⟩ := nat_of_u64 w1
  obtain ⟨n2, rfl, u2⟩ := nat_of_u64 w2
  simp only [List.cons.injEq, and_true] at j0 j1 j2 j3
  subst j0 j1 j2 j3 hz
  simp only [Prod.mk.injEq] at hx
  exact ⟨⟨⟨x0, n1, n2⟩, x3⟩, ⟨⟨u1, u2⟩, wf64 w3⟩, rfl, hx.1, hx.2⟩
end
end Go.Proofs.Ytgnjbbohphoojaa
