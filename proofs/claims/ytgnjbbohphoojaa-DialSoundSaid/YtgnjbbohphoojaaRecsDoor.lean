/- Lists of records that came in: any element type; subnets in cells. -/
import Derived.Test.YtgnjbbohphoojaaBlk
import Derived.Test.YtgnjbbohphoojaaCidrDoor
import Derived.Deep.Slices
import Derived.Deep.Strs
namespace Go.Proofs.Ytgnjbbohphoojaa
set_option maxRecDepth 100000
open Go.ChangeShapes Go.WideShapes Go.ChangeAt Go.RowKit
open Ad Ci Go.Deep
section
variable {H : Type} {enc : TypeId × Value → H} {P : Program}
abbrev w_at (W : World) (a : Addr) (k : Nat) (cs : List Value) (i : Nat) : Prop := ∀ j, j < cs.length → W.cell? ((a.add (i * k)).add j) = cs[j]?
/-- A list of records that came in: each element's cells are some record's. -/
theorem open_recs {α : Type} [Inhabited α] {k : Nat} {encR : α → List Value} {good : α → Prop} {W : World} {t e : TypeId} {v : Value} {d : DataW H} {ps : List MemPlace} {r : Reach} {b0 : Nat}
    (ht : P.underlying t = some (.slice e)) (hc : P.cellsOf e = k) (h0 : 0 < k)
    (hel : ∀ (n : Nat) (cs : List Value) (y : DataW H × List MemPlace), DataW.trod enc P W 0 (fun _ => true) true n e cs = some y → cs.length = k → ∃ x : α, cs = encR x ∧ good x)
    (hval : Value.okWide P W r b0 t v) (h : DataW.Trod enc P W 0 (fun _ => true) true t v d ps) : ∃ xs : List α, Recs k encR W v xs ∧ xs.length ≤ 9223372036854775807 ∧ ∀ x ∈ xs, good x := by
  obtain ⟨a0, len, cap, rfl⟩ := okWide_slice ht hval
  obtain ⟨fuel, hf⟩ := h
  rcases open_slice ht hf with ⟨hcs, _⟩ | ⟨a, len', cap', m, n, D, Pl, hcs, _, hl, hm, hmm, _, hx⟩
  · simp [Value.cells] at hcs
    obtain ⟨rfl, rfl, rfl⟩ := hcs
    exact ⟨[], Recs.nil _ _ _, by simp, by simp⟩
  · simp [Value.cells] at hcs
    obtain ⟨rfl, rfl, rfl⟩ := hcs
    simp only [if_true] at hmm
    subst hmm
    unfold maxLen at hm
    rw [hc] at hx
    obtain ⟨F, hF⟩ := choose_lt (α := α) (n := len) (p := fun i x => w_at W a k (encR x) i ∧ good x) (fun i hi => by
      obtain ⟨cs', h1, h2⟩ := hx i (by omega)
      obtain ⟨_, hlen, hcell⟩ := World.cells?_some h1
      obtain ⟨x, rfl, hg⟩ := hel _ _ _ h2 hlen
      exact ⟨x, fun j hj => by
        have := hcell j (by rw [← hlen]; exact hj)
        rw [this], hg⟩)
    have hlen : ((List.range len).map F).length = len := by rw [List.length_map, List.length_range]
    refine ⟨(List.range len).map F, ⟨some a, m, by rw [hlen], by rw [hlen]; exact hl, (fun h => by simp at h), fun hp => ?_⟩, by rw [hlen]; omega, fun x hx => ?_⟩
    · rw [hlen] at hp
      obtain ⟨b, off, spot⟩ := a
      obtain ⟨cs', h1, h2⟩ := hx 0 (by omega)
      obtain ⟨_, hl2, hcell⟩ := World.cells?_some h1
      have hsome : ∃ u, cs'[0]? = some u := ⟨_, List.getElem?_eq_getElem (by omega)⟩
      obtain ⟨u, hu⟩ := hsome
      have hc0 := hcell 0 h0
      rw [hu] at hc0
      have hspot : spot = none := by simpa [Addr.add] using World.cell?_spot hc0
      subst hspot
      refine ⟨b, off, rfl, by simpa [Addr.add] using World.block_lt_of_cell? _ _ hc0, fun i hi j u hu => ?_⟩
      have hi2 : i < len := by rw [hlen] at hi; exact hi
      rw [List.getElem_map, List.getElem_range] at hu
      have := (hF i hi2).1 j (List.getElem?_eq_some_iff.1 hu).1
      rw [hu, add_plain, add_plain] at this
      exact this
    · obtain ⟨i, hi, rfl⟩ := List.mem_map.1 hx
      exact (hF i (List.mem_range.1 hi)).2
/-- A subnet's four cells. -/
theorem net_cells {W : World} {ta tb tu ti t : TypeId} {f0 f1 g0 g1 g2 : Field} {fuel : Nat} {cs : List Value} {y : DataW H × List MemPlace}
    (hs : P.underlying t = some (.struct #[f0, f1])) (ea : f0.type = ta) (ei : f1.type = ti) (ha : P.underlying ta = some (.struct #[g0, g1, g2])) (hone : oneCellFields P #[g0, g1, g2] = true)
    (o0 : f0.offset = 0) (o1 : f1.offset = 3) (hca : P.cellsOf ta = 3) (hci : P.cellsOf ti = 1) (hC : P.cellsOf t = 4)
    (e0 : g0.type = tb) (e1 : g1.type = tu) (e2 : g2.type = tu) (hb : P.underlying tb = some .bool) (hu : P.underlying tu = some (.int .u64)) (hi : P.underlying ti = some (.int .i64))
    (hf : DataW.trod enc P W 0 (fun _ => true) true fuel t cs = some y) :
    ∃ n : Net, n.ok ∧ cs = [.bool n.a.v6, .int .u64 n.a.hi, .int .u64 n.a.lo, .int .i64 n.n] := by
  obtain ⟨y0, y1, n, hx, hl, h0, h1⟩ := trod_struct2 hs hf
  rw [hC] at hl
  match cs, hl with
  | [c0, c1, c2, c3], _ =>
  rw [ea, o0, hca] at h0
  rw [ei, o1, hci] at h1
  have h0' : DataW.trod enc P W 0 (fun _ => true) true n ta [c0, c1, c2] = some y0 := h0
  have h1' : DataW.trod enc P W 0 (fun _ => true) true n ti [c3] = some y1 := h1
  obtain ⟨z0, z1, z2, m, hz, _, k0, k1, k2⟩ := trod_struct3 ha h0'
  obtain ⟨p0, q0⟩ := hone_of hone 0 g0 rfl
  obtain ⟨p1, q1⟩ := hone_of hone 1 g1 rfl
  obtain ⟨p2, q2⟩ := hone_of hone 2 g2 rfl
  rw [p0, q0, e0] at k0
  rw [p1, q1, e1] at k1
  rw [p2, q2, e2] at k2
  have k0' : DataW.trod enc P W 0 (fun _ => true) true m tb [c0] = some z0 := k0
  have k1' : DataW.trod enc P W 0 (fun _ => true) true m tu [c1] = some z1 := k1
  have k2' : DataW.trod enc P W 0 (fun _ => true) true m tu [c2] = some z2 := k2
  obtain ⟨x0, j0, rfl⟩ := DataW.trod_bool hb k0'
  obtain ⟨x1, j1, rfl, w1⟩ := DataW.trod_int hu k1'
  obtain ⟨x2, j2, rfl, w2⟩ := DataW.trod_int hu k2'
  obtain ⟨x3, j3, rfl, w3⟩ := DataW.trod_int hi h1'
  obtain ⟨n1, rfl, u1⟩ := nat_of_u64 w1
  obtain ⟨n2, rfl, u2⟩ := nat_of_u64 w2
  simp only [List.cons.injEq, and_true] at j0 j1 j2 j3
  subst j0 j1 j2 j3
  exact ⟨⟨⟨x0, n1, n2⟩, x3⟩, ⟨⟨u1, u2⟩, wf64 w3⟩, rfl⟩
end
end Go.Proofs.Ytgnjbbohphoojaa
