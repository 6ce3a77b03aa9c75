/- Peers that came in; peers compared; acts in memory. -/
import Derived.Test.YtbonfmjalgfgaaaPeerMath
import Derived.Test.YtbonfmjalgfgaaaEndpDoor
import Derived.Test.YtbonfmjalgfgaaaRecsDoor
import Derived.Test.YtbonfmjalgfgaaaTwoDoor
import Derived.Test.YtbonfmjalgfgaaaHalf
namespace Go.Proofs.Ytbonfmjalgfgaaa
set_option maxRecDepth 100000
open Go.ChangeShapes Go.WideShapes Go.ChangeAt Go.RowKit
open Ad Ci En Ha Pe Go.Deep
set_option linter.unusedVariables false
theorem score_cells {H : Type} {enc : TypeId × Value → H} {W : World} {fuel : Nat} {c0 c1 : Value} {y : DataW H × List MemPlace}
    (hf : DataW.trod enc Try.prog W 0 (fun _ => true) true fuel 48 [c0, c1] = some y) : ∃ s : Sc, c0 = .int .i64 s.p ∧ c1 = .int .i64 s.a ∧ s.ok := by
  obtain ⟨y0, y1, m, _, _, h0, h1⟩ := trod_struct2 Try.underlying48 hf
  have k1 : Try.prog.cellsOf 3 = 1 := by kernel_rfl
  have h0' : DataW.trod enc Try.prog W 0 (fun _ => true) true m 3 (([c0, c1].drop 0).take (Try.prog.cellsOf 3)) = some y0 := h0
  have h1' : DataW.trod enc Try.prog W 0 (fun _ => true) true m 3 (([c0, c1].drop 1).take (Try.prog.cellsOf 3)) = some y1 := h1
  rw [k1] at h0' h1'
  have g0 : DataW.trod enc Try.prog W 0 (fun _ => true) true m 3 [c0] = some y0 := h0'
  have g1 : DataW.trod enc Try.prog W 0 (fun _ => true) true m 3 [c1] = some y1 := h1'
  obtain ⟨x0, j0, _, w0⟩ := DataW.trod_int Try.underlying3 g0
  obtain ⟨x1, j1, _, w1⟩ := DataW.trod_int Try.underlying3 g1
  simp only [List.cons.injEq, and_true] at j0 j1
  exact ⟨⟨x0, x1⟩, j0, j1, wf64 w0, wf64 w1⟩
theorem peer_cells {H : Type} {enc : TypeId × Value → H} {W : World} {fuel : Nat} {cs : List Value} {y : DataW H × List MemPlace}
    (hf : DataW.trod enc Try.prog W 0 (fun _ => true) true fuel 50 cs = some y) (hl : cs.length = 10) : ∃ x : Pr, cs = encP x ∧ x.ok := by
  match cs, hl with
  | [c0, c1, c2, c3, c4, c5, c6, c7, c8, c9], _ =>
  obtain ⟨xs, m, _, _, _, hx, he⟩ := DataW.trod_struct Try.underlying50 hf
  have hx6 : xs.length = 6 := hx
  have k1 : Try.prog.cellsOf 3 = 1 := by kernel_rfl
  have kb : Try.prog.cellsOf 4 = 1 := by kernel_rfl
  have k2 : Try.prog.cellsOf 48 = 2 := by kernel_rfl
  have k4 : Try.prog.cellsOf 34 = 4 := by kernel_rfl
  obtain ⟨y0, e0⟩ : ∃ y, xs[0]? = some y := ⟨_, List.getElem?_eq_getElem (by omega)⟩
  obtain ⟨y1, e1⟩ : ∃ y, xs[1]? = some y := ⟨_, List.getElem?_eq_getElem (by omega)⟩
  obtain ⟨y2, e2⟩ : ∃ y, xs[2]? = some y := ⟨_, List.getElem?_eq_getElem (by omega)⟩
  obtain ⟨y3, e3⟩ : ∃ y, xs[3]? = some y := ⟨_, List.getElem?_eq_getElem (by omega)⟩
  obtain ⟨y4, e4⟩ : ∃ y, xs[4]? = some y := ⟨_, List.getElem?_eq_getElem (by omega)⟩
  obtain ⟨y5, e5⟩ : ∃ y, xs[5]? = some y := ⟨_, List.getElem?_eq_getElem (by omega)⟩
  have h0 : DataW.trod enc Try.prog W 0 (fun _ => true) true m 34 (([c0, c1, c2, c3, c4, c5, c6, c7, c8, c9].drop 0).take (Try.prog.cellsOf 34)) = xs[0]? := he 0 _ rfl
  have h1 : DataW.trod enc Try.prog W 0 (fun _ => true) true m 4 (([c0, c1, c2, c3, c4, c5, c6, c7, c8, c9].drop 4).take (Try.prog.cellsOf 4)) = xs[1]? := he 1 _ rfl
  have h2 : DataW.trod enc Try.prog W 0 (fun _ => true) true m 3 (([c0, c1, c2, c3, c4, c5, c6, c7, c8, c9].drop 5).take (Try.prog.cellsOf 3)) = xs[2]? := he 2 _ rfl
  have h3 : DataW.trod enc Try.prog W 0 (fun _ => true) true m 48 (([c0, c1, c2, c3, c4, c5, c6, c7, c8, c9].drop 6).take (Try.prog.cellsOf 48)) = xs[3]? := he 3 _ rfl
  have h4 : DataW.trod enc Try.prog W 0 (fun _ => true) true m 3 (([c0, c1, c2, c3, c4, c5, c6, c7, c8, c9].drop 8).take (Try.prog.cellsOf 3)) = xs[4]? := he 4 _ rfl
  have h5 : DataW.trod enc Try.prog W 0 (fun _ => true) true m 3 (([c0, c1, c2, c3, c4, c5, c6, c7, c8, c9].drop 9).take (Try.prog.cellsOf 3)) = xs[5]? := he 5 _ rfl
  rw [k4, e0] at h0
  rw [kb, e1] at h1
  rw [k1, e2] at h2
  rw [k2, e3] at h3
  rw [k1, e4] at h4
  rw [k1, e5] at h5
  have g0 : DataW.trod enc Try.prog W 0 (fun _ => true) true m 34 [c0, c1, c2, c3] = some y0 := h0
  have g1 : DataW.trod enc Try.prog W 0 (fun _ => true) true m 4 [c4] = some y1 := h1
  have g2 : DataW.trod enc Try.prog W 0 (fun _ => true) true m 3 [c5] = some y2 := h2
  have g3 : DataW.trod enc Try.prog W 0 (fun _ => true) true m 48 [c6, c7] = some y3 := h3
  have g4 : DataW.trod enc Try.prog W 0 (fun _ => true) true m 3 [c8] = some y4 := h4
  have g5 : DataW.trod enc Try.prog W 0 (fun _ => true) true m 3 [c9] = some y5 := h5
  obtain ⟨N, hN, jN⟩ := net_cells (ta := 26) (tb := 4) (tu := 24) (ti := 3) Try.underlying34 rfl rfl Try.underlying26 (by kernel_rfl) rfl rfl (by kernel_rfl) (by kernel_rfl) (by kernel_rfl) rfl rfl rfl Try.underlying4 Try.underlying24 Try.underlying3 g0
  obtain ⟨x1, j1, _⟩ := DataW.trod_bool Try.underlying4 g1
  obtain ⟨x2, j2, _, w2⟩ := DataW.trod_int Try.underlying3 g2
  obtain ⟨s, j6, j7, hs⟩ := score_cells g3
  obtain ⟨x4, j4, _, w4⟩ := DataW.trod_int Try.underlying3 g4
  obtain ⟨x5, j5, _, w5⟩ := DataW.trod_int Try.underlying3 g5
  simp only [List.cons.injEq, and_true] at jN j1 j2 j4 j5
  obtain ⟨rfl, rfl, rfl, rfl⟩ := jN
  subst j1 j2 j4 j5 j6 j7
  exact ⟨⟨⟨N.a, N.n⟩, x1, x2, s, x4, x5⟩, rfl, hN, wf64 w2, hs, wf64 w4, wf64 w5⟩
/-- A peer that came in. -/
theorem open_peer {H : Type} {enc : TypeId × Value → H} {W : World} {v : Value} {d : DataW H} {ps : List MemPlace} {r : Reach} {b0 : Nat}
    (hval : Value.okWide Try.prog W r b0 50 v) (h : DataW.Trod enc Try.prog W 0 (fun _ => true) true 50 v d ps) :
    ∃ x : Pr, x.ok ∧ v = .agg #[.bool x.e.a.v6, .int .u64 x.e.a.hi, .int .u64 x.e.a.lo, .int .i64 x.e.n, .bool x.i, .int .i64 x.t, .int .i64 x.c.p, .int .i64 x.c.a, .int .i64 x.g, .int .i64 x.k] := by
  obtain ⟨cs, rfl, hsz⟩ := okWide_struct Try.underlying50 hval
  have hC : Try.prog.cellsOf 50 = 10 := by kernel_rfl
  obtain ⟨fuel, hf⟩ := h
  obtain ⟨b, hb, hk⟩ := peer_cells hf (by show cs.toList.length = 10; rw [Array.length_toList, hsz, hC])
  refine ⟨b, hk, ?_⟩
  have e : cs = (encP b).toArray := by
    have : cs.toList = encP b := hb
    rw [← this]
  rw [e]; rfl
instance : Inhabited Act17 := ⟨⟨0, 0, 0⟩⟩
abbrev Acts17 (w : World) (v : Value) (l : List Act17) : Prop := Recs 3 enc17 w v l
/-- Scores, inside of a struct. -/
theorem eqInScore (d : Nat) (s t : Sc) (w : World) : (Op.equalIn (d + 2) 48 (.agg #[.int .i64 s.p, .int .i64 s.a]) (.agg #[.int .i64 t.p, .int .i64 t.a])).run Try.prog w = .ok (s.p == t.p && s.a == t.a) w := by
  have h3 : ∀ w : World, (isAgg 3).run Try.prog w = .ok false w := fun _ => by kernel_rfl
  rw [run_equalIn_struct w (d + 1) _ _ _ (by kernel_rfl) (by kernel_rfl)]
  rw [show (Try.prog.fieldsOf 48).toList = [⟨"Points", 3, 0, false, "", "", 0⟩, ⟨"At", 3, 1, false, "", "", 8⟩] from by kernel_rfl]
  have p0 : ∀ s : Sc, (part 3 #[.int .i64 s.p, .int .i64 s.a] 0).run Try.prog w = .ok (.int .i64 s.p) w := fun s => part_one w _ _ _ _ (h3 w) rfl
  have p1 : ∀ s : Sc, (part 3 #[.int .i64 s.p, .int .i64 s.a] 1).run Try.prog w = .ok (.int .i64 s.a) w := fun s => part_one w _ _ _ _ (h3 w) rfl
  have q0 : (Op.equalIn (d + 1) 3 (.int .i64 s.p) (.int .i64 t.p)).run Try.prog w = .ok (s.p == t.p) w := run_equalIn_int w d _ _ _ _ _ Try.underlying3
  have q1 : (Op.equalIn (d + 1) 3 (.int .i64 s.a) (.int .i64 t.a)).run Try.prog w = .ok (s.a == t.a) w := run_equalIn_int w d _ _ _ _ _ Try.underlying3
  simp only [Op.eqFields, Sem.run_bind, Sem.run_ite, p0, p1, q0, q1, Result.andThen_ok]
  cases (s.p == t.p) <;> cases (s.a == t.a) <;> simp
/-- A peer equals itself. -/
theorem eqPeer_self (x : Pr) (w : World) : (binOp .eql 50 (.agg #[.bool x.e.a.v6, .int .u64 x.e.a.hi, .int .u64 x.e.a.lo, .int .i64 x.e.n, .bool x.i, .int .i64 x.t, .int .i64 x.c.p, .int .i64 x.c.a, .int .i64 x.g, .int .i64 x.k]) (.agg #[.bool x.e.a.v6, .int .u64 x.e.a.hi, .int .u64 x.e.a.lo, .int .i64 x.e.n, .bool x.i, .int .i64 x.t, .int .i64 x.c.p, .int .i64 x.c.a, .int .i64 x.g, .int .i64 x.k])).run Try.prog w = .ok (.bool true) w := by
  have hE : ∀ w : World, (isAgg 34).run Try.prog w = .ok true w := fun _ => by kernel_rfl
  have hzE : ∀ w : World, (sizeOf 34).run Try.prog w = .ok 4 w := fun _ => by kernel_rfl
  have hS : ∀ w : World, (isAgg 48).run Try.prog w = .ok true w := fun _ => by kernel_rfl
  have hzS : ∀ w : World, (sizeOf 48).run Try.prog w = .ok 2 w := fun _ => by kernel_rfl
  have h3 : ∀ w : World, (isAgg 3).run Try.prog w = .ok false w := fun _ => by kernel_rfl
  have h4 : ∀ w : World, (isAgg 4).run Try.prog w = .ok false w := fun _ => by kernel_rfl
  rw [run_eql_struct, run_equalIn_struct w 9999 _ _ _ (by kernel_rfl) (by kernel_rfl)]
  rw [show (Try.prog.fieldsOf 50).toList = [⟨"End", 34, 0, false, "", "", 0⟩, ⟨"In", 4, 4, false, "", "", 32⟩, ⟨"Since", 3, 5, false, "", "", 40⟩, ⟨"Score", 48, 6, false, "", "", 48⟩, ⟨"Ping", 3, 8, false, "", "", 64⟩, ⟨"Work", 3, 9, false, "", "", 72⟩] from by kernel_rfl]
  obtain ⟨cs, hcs⟩ : ∃ cs : Array Value, cs = #[.bool x.e.a.v6, .int .u64 x.e.a.hi, .int .u64 x.e.a.lo, .int .i64 x.e.n, .bool x.i, .int .i64 x.t, .int .i64 x.c.p, .int .i64 x.c.a, .int .i64 x.g, .int .i64 x.k] := ⟨_, rfl⟩
  have p0 : (part 34 cs 0).run Try.prog w = .ok (.agg #[.bool x.e.a.v6, .int .u64 x.e.a.hi, .int .u64 x.e.a.lo, .int .i64 x.e.n]) w := by rw [hcs]; simp [part, hE, hzE]
  have p1 : (part 4 cs 4).run Try.prog w = .ok (.bool x.i) w := by rw [hcs]; exact part_one w _ _ _ _ (h4 w) rfl
  have p2 : (part 3 cs 5).run Try.prog w = .ok (.int .i64 x.t) w := by rw [hcs]; exact part_one w _ _ _ _ (h3 w) rfl
  have p3 : (part 48 cs 6).run Try.prog w = .ok (.agg #[.int .i64 x.c.p, .int .i64 x.c.a]) w := by rw [hcs]; simp [part, hS, hzS]
  have p4 : (part 3 cs 8).run Try.prog w = .ok (.int .i64 x.g) w := by rw [hcs]; exact part_one w _ _ _ _ (h3 w) rfl
  have p5 : (part 3 cs 9).run Try.prog w = .ok (.int .i64 x.k) w := by rw [hcs]; exact part_one w _ _ _ _ (h3 w) rfl
  have q0 := eqInEnd 9996 x.e x.e w
  rw [same_selfE] at q0
  have q1 : (Op.equalIn 9999 4 (.bool x.i) (.bool x.i)).run Try.prog w = .ok true w := by
    have k := run_equalIn_bool (P := Try.prog) w 9998 4 x.i x.i Try.underlying4
    simpa using k
  have q2 : ∀ n : Int, (Op.equalIn 9999 3 (.int .i64 n) (.int .i64 n)).run Try.prog w = .ok true w := fun n => by
    have k := run_equalIn_int (P := Try.prog) w 9998 3 .i64 .i64 n n Try.underlying3
    simpa using k
  have q3 := eqInScore 9997 x.c x.c w
  simp only [beq_self_eq_true, Bool.and_self] at q3
  rw [← hcs]
  simp [Op.eqFields, Sem.run_bind, Sem.run_ite, p0, p1, p2, p3, p4, p5, q0, q1, q2, q3, Result.andThen_ok]
end Go.Proofs.Ytbonfmjalgfgaaa
