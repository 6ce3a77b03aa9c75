/- Entries that came in; entries compared. -/
import Derived.Test.YtbonfmjalgfgaaaEntry
import Derived.Test.YtbonfmjalgfgaaaEndpDoor
import Derived.Test.YtbonfmjalgfgaaaRecsDoor
import Derived.Test.YtbonfmjalgfgaaaKit
import Derived.Test.YtbonfmjalgfgaaaDoor
namespace Go.Proofs.Ytbonfmjalgfgaaa
set_option maxRecDepth 100000
open Go.ChangeShapes Go.WideShapes Go.ChangeAt Go.RowKit
open Ad Ci En Sat Bk Et Go.Deep
set_option linter.unusedVariables false
theorem entry_cells {H : Type} {enc : TypeId × Value → H} {W : World} {fuel : Nat} {cs : List Value} {y : DataW H × List MemPlace}
    (hf : DataW.trod enc Try.prog W 0 (fun _ => true) true fuel 36 cs = some y) (hl : cs.length = 7) : ∃ x : Ey, cs = encY x ∧ x.ok := by
  match cs, hl with
  | [c0, c1, c2, c3, c4, c5, c6], _ =>
  obtain ⟨xs, m, _, _, _, hx, he⟩ := DataW.trod_struct Try.underlying36 hf
  have hx4 : xs.length = 4 := hx
  have k1 : Try.prog.cellsOf 3 = 1 := by kernel_rfl
  have k4 : Try.prog.cellsOf 34 = 4 := by kernel_rfl
  obtain ⟨y0, e0⟩ : ∃ y, xs[0]? = some y := ⟨_, List.getElem?_eq_getElem (by omega)⟩
  have h0 : DataW.trod enc Try.prog W 0 (fun _ => true) true m 34 (([c0, c1, c2, c3, c4, c5, c6].drop 0).take (Try.prog.cellsOf 34)) = xs[0]? := he 0 _ rfl
  rw [k4, e0] at h0
  have g0 : DataW.trod enc Try.prog W 0 (fun _ => true) true m 34 [c0, c1, c2, c3] = some y0 := h0
  obtain ⟨y1, e1⟩ : ∃ y, xs[1]? = some y := ⟨_, List.getElem?_eq_getElem (by omega)⟩
  have h1 : DataW.trod enc Try.prog W 0 (fun _ => true) true m 3 (([c0, c1, c2, c3, c4, c5, c6].drop 4).take (Try.prog.cellsOf 3)) = xs[1]? := he 1 _ rfl
  rw [k1, e1] at h1
  have g1 : DataW.trod enc Try.prog W 0 (fun _ => true) true m 3 [c4] = some y1 := h1
  obtain ⟨y2, e2⟩ : ∃ y, xs[2]? = some y := ⟨_, List.getElem?_eq_getElem (by omega)⟩
  have h2 : DataW.trod enc Try.prog W 0 (fun _ => true) true m 3 (([c0, c1, c2, c3, c4, c5, c6].drop 5).take (Try.prog.cellsOf 3)) = xs[2]? := he 2 _ rfl
  rw [k1, e2] at h2
  have g2 : DataW.trod enc Try.prog W 0 (fun _ => true) true m 3 [c5] = some y2 := h2
  obtain ⟨y3, e3⟩ : ∃ y, xs[3]? = some y := ⟨_, List.getElem?_eq_getElem (by omega)⟩
  have h3 : DataW.trod enc Try.prog W 0 (fun _ => true) true m 3 (([c0, c1, c2, c3, c4, c5, c6].drop 6).take (Try.prog.cellsOf 3)) = xs[3]? := he 3 _ rfl
  rw [k1, e3] at h3
  have g3 : DataW.trod enc Try.prog W 0 (fun _ => true) true m 3 [c6] = some y3 := h3
  obtain ⟨N, hN, jN⟩ := net_cells (ta := 26) (tb := 4) (tu := 24) (ti := 3) Try.underlying34 rfl rfl Try.underlying26 (by kernel_rfl) rfl rfl (by kernel_rfl) (by kernel_rfl) (by kernel_rfl) rfl rfl rfl Try.underlying4 Try.underlying24 Try.underlying3 g0
  obtain ⟨x1, j1, _, w1⟩ := DataW.trod_int Try.underlying3 g1
  obtain ⟨x2, j2, _, w2⟩ := DataW.trod_int Try.underlying3 g2
  obtain ⟨x3, j3, _, w3⟩ := DataW.trod_int Try.underlying3 g3
  simp only [List.cons.injEq, and_true] at jN j1 j2 j3
  obtain ⟨rfl, rfl, rfl, rfl⟩ := jN
  subst j1 j2 j3
  exact ⟨⟨⟨N.a, N.n⟩, x1, x2, x3⟩, rfl, hN, wf64 w1, wf64 w2, wf64 w3⟩
/-- An entry that came in. -/
theorem open_entry {H : Type} {enc : TypeId × Value → H} {W : World} {v : Value} {d : DataW H} {ps : List MemPlace} {r : Reach} {b0 : Nat}
    (hval : Value.okWide Try.prog W r b0 36 v) (h : DataW.Trod enc Try.prog W 0 (fun _ => true) true 36 v d ps) :
    ∃ y : Ey, y.ok ∧ v = .agg #[.bool y.e.a.v6, .int .u64 y.e.a.hi, .int .u64 y.e.a.lo, .int .i64 y.e.n, .int .i64 y.st, .int .i64 y.f, .int .i64 y.nx] := by
  obtain ⟨cs, rfl, hsz⟩ := okWide_struct Try.underlying36 hval
  have hC : Try.prog.cellsOf 36 = 7 := by kernel_rfl
  obtain ⟨fuel, hf⟩ := h
  obtain ⟨b, hb, hk⟩ := entry_cells hf (by show cs.toList.length = 7; rw [Array.length_toList, hsz, hC])
  refine ⟨b, hk, ?_⟩
  have e : cs = (encY b).toArray := by
    have : cs.toList = encY b := hb
    rw [← this]
  rw [e]; rfl
/-- An entry equals itself. -/
theorem eqEntry_self (y : Ey) (w : World) : (binOp .eql 36 (.agg #[.bool y.e.a.v6, .int .u64 y.e.a.hi, .int .u64 y.e.a.lo, .int .i64 y.e.n, .int .i64 y.st, .int .i64 y.f, .int .i64 y.nx]) (.agg #[.bool y.e.a.v6, .int .u64 y.e.a.hi, .int .u64 y.e.a.lo, .int .i64 y.e.n, .int .i64 y.st, .int .i64 y.f, .int .i64 y.nx])).run Try.prog w = .ok (.bool true) w := by
  have hE : ∀ w : World, (isAgg 34).run Try.prog w = .ok true w := fun _ => by kernel_rfl
  have hzE : ∀ w : World, (sizeOf 34).run Try.prog w = .ok 4 w := fun _ => by kernel_rfl
  have h3 : ∀ w : World, (isAgg 3).run Try.prog w = .ok false w := fun _ => by kernel_rfl
  rw [run_eql_struct, run_equalIn_struct w 9999 _ _ _ (by kernel_rfl) (by kernel_rfl)]
  rw [show (Try.prog.fieldsOf 36).toList = [⟨"End", 34, 0, false, "", "", 0⟩, ⟨"State", 3, 4, false, "", "", 32⟩, ⟨"Fails", 3, 5, false, "", "", 40⟩, ⟨"Next", 3, 6, false, "", "", 48⟩] from by kernel_rfl]
  obtain ⟨cs, hcs⟩ : ∃ cs : Array Value, cs = #[.bool y.e.a.v6, .int .u64 y.e.a.hi, .int .u64 y.e.a.lo, .int .i64 y.e.n, .int .i64 y.st, .int .i64 y.f, .int .i64 y.nx] := ⟨_, rfl⟩
  have p0 : (part 34 cs 0).run Try.prog w = .ok (.agg #[.bool y.e.a.v6, .int .u64 y.e.a.hi, .int .u64 y.e.a.lo, .int .i64 y.e.n]) w := by rw [hcs]; simp [part, hE, hzE]
  have p1 : (part 3 cs 4).run Try.prog w = .ok (.int .i64 y.st) w := by rw [hcs]; exact part_one w _ _ _ _ (h3 w) rfl
  have p2 : (part 3 cs 5).run Try.prog w = .ok (.int .i64 y.f) w := by rw [hcs]; exact part_one w _ _ _ _ (h3 w) rfl
  have p3 : (part 3 cs 6).run Try.prog w = .ok (.int .i64 y.nx) w := by rw [hcs]; exact part_one w _ _ _ _ (h3 w) rfl
  have q0 := eqInEnd 9996 y.e y.e w
  rw [same_selfE] at q0
  have q2 : ∀ n : Int, (Op.equalIn 9999 3 (.int .i64 n) (.int .i64 n)).run Try.prog w = .ok true w := fun n => by
    have k := run_equalIn_int (P := Try.prog) w 9998 3 .i64 .i64 n n Try.underlying3
    simpa using k
  rw [← hcs]
  simp [Op.eqFields, Sem.run_bind, Sem.run_ite, p0, p1, p2, p3, q0, q2, Result.andThen_ok]
/-- The state of an entry that a call answered. -/
theorem field_st (y : Ey) (w : World) : (Instr.field 36 (.agg #[.bool y.e.a.v6, .int .u64 y.e.a.hi, .int .u64 y.e.a.lo, .int .i64 y.e.n, .int .i64 y.st, .int .i64 y.f, .int .i64 y.nx]) 1).run Try.prog w = .ok (.int .i64 y.st) w := by kernel_rfl
end Go.Proofs.Ytbonfmjalgfgaaa
