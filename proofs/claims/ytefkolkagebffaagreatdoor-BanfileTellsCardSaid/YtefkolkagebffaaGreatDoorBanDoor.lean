/- Bans: boxes, comparison, as they come in. -/
import Derived.Test.YtefkolkagebffaaGreatDoorBanMath
import Derived.Test.YtefkolkagebffaaGreatDoorCidrAll
import Derived.Test.YtefkolkagebffaaGreatDoorRecsDoor
import Derived.OpenShut
namespace Go.Proofs.YtefkolkagebffaaGreatDoor
set_option maxRecDepth 100000
open Go.ChangeShapes Go.WideShapes Go.ChangeAt Go.RowKit
open Dec Words V4 V6 Ad Ci Ba Go.Deep
set_option linter.unusedVariables false
def encB (b : Ban) : List Value := [.bool b.n.a.v6, .int .u64 b.n.a.hi, .int .u64 b.n.a.lo, .int .i64 b.n.n, .int .i64 b.t]
theorem encB_len (b : Ban) : (encB b).length = 5 := rfl
theorem encB_one (b : Ban) : ∀ u ∈ encB b, u.oneCell' = true := by
  unfold encB; simp [Value.oneCell']
abbrev Bans (w : World) (v : Value) (l : List Ban) : Prop := Recs 5 encB w v l
theorem cell_at (w : World) (cs : Array Value) (t : TypeId) (j : Nat) (v : Value) (h : cs[j]? = some v) : (w.alloc (.cells cs t)).cell? ⟨w.heap.size, j, none⟩ = some v := by
  rw [cell_of_row _ _ _ _ _ _ (heap_alloc_new w _)]; exact h
theorem cell_new5 (w : World) (x y z u v : Value) (t : TypeId) : (w.alloc (.cells #[x, y, z, u, v] t)).cell? ⟨w.heap.size, 0, none⟩ = some x ∧ (w.alloc (.cells #[x, y, z, u, v] t)).cell? ⟨w.heap.size, 1, none⟩ = some y ∧ (w.alloc (.cells #[x, y, z, u, v] t)).cell? ⟨w.heap.size, 2, none⟩ = some z ∧ (w.alloc (.cells #[x, y, z, u, v] t)).cell? ⟨w.heap.size, 3, none⟩ = some u ∧ (w.alloc (.cells #[x, y, z, u, v] t)).cell? ⟨w.heap.size, 4, none⟩ = some v := by
  refine ⟨?_, ?_, ?_, ?_, ?_⟩ <;> (rw [cell_of_row _ _ _ _ _ _ (heap_alloc_new w _)]; rfl)
abbrev SN1 (x : Ban) (w : World) (w' : World) : Prop := w'.cell? ⟨w.heap.size, 0, none⟩ = some (.bool x.n.a.v6) ∧ w'.cell? ⟨w.heap.size, 1, none⟩ = some (.int .u64 x.n.a.hi) ∧ w'.cell? ⟨w.heap.size, 2, none⟩ = some (.int .u64 x.n.a.lo) ∧ w'.cell? ⟨w.heap.size, 3, none⟩ = some (.int .i64 x.n.n) ∧ w'.cell? ⟨w.heap.size, 4, none⟩ = some (.int .i64 x.t) ∧ Stays (w.alloc (.cells #[.bool x.n.a.v6, .int .u64 x.n.a.hi, .int .u64 x.n.a.lo, .int .i64 x.n.n, .int .i64 x.t] 40)) w'
theorem SN1.of {x : Ban} {w w' : World} (h : Stays (w.alloc (.cells #[.bool x.n.a.v6, .int .u64 x.n.a.hi, .int .u64 x.n.a.lo, .int .i64 x.n.n, .int .i64 x.t] 40)) w') : SN1 x w w' := ⟨Ci.cells_left h (cell_new5 _ _ _ _ _ _ _).1, Ci.cells_left h (cell_new5 _ _ _ _ _ _ _).2.1, Ci.cells_left h (cell_new5 _ _ _ _ _ _ _).2.2.1, Ci.cells_left h (cell_new5 _ _ _ _ _ _ _).2.2.2.1, Ci.cells_left h (cell_new5 _ _ _ _ _ _ _).2.2.2.2, h⟩
theorem SN1.on {x : Ban} {w w1 w2 : World} (h : SN1 x w w1) (k : Below w1.heap.size w1 w2) : SN1 x w w2 := SN1.of (low_trans h.2.2.2.2.2 k)
theorem SN1.low {x : Ban} {w w1 : World} (h : SN1 x w w1) : Below w.heap.size w w1 := ((Below.refl _ _).alloc (Nat.le_refl _) _).trans (h.2.2.2.2.2.mono (by simp))
theorem eqInNet (d : Nat) (m n : Net) (w : World) : (Op.equalIn (d + 3) 38 (.agg #[.bool m.a.v6, .int .u64 m.a.hi, .int .u64 m.a.lo, .int .i64 m.n]) (.agg #[.bool n.a.v6, .int .u64 n.a.hi, .int .u64 n.a.lo, .int .i64 n.n])).run Tryz.prog w = .ok (sameN m n) w := by
  have hA : ∀ w : World, (isAgg 36).run Tryz.prog w = .ok true w := fun _ => by kernel_rfl
  have hz : ∀ w : World, (sizeOf 36).run Tryz.prog w = .ok 3 w := fun _ => by kernel_rfl
  have h3 : ∀ w : World, (isAgg 3).run Tryz.prog w = .ok false w := fun _ => by kernel_rfl
  rw [run_equalIn_struct w (d + 2) _ _ _ (by kernel_rfl) (by kernel_rfl)]
  rw [show (Tryz.prog.fieldsOf 38).toList = [⟨"Addr", 36, 0, false, "", "", 0⟩, ⟨"Bits", 3, 3, false, "", "", 24⟩] from by kernel_rfl]
  have p0 : ∀ n : Net, (part 36 #[.bool n.a.v6, .int .u64 n.a.hi, .int .u64 n.a.lo, .int .i64 n.n] 0).run Tryz.prog w = .ok (.agg #[.bool n.a.v6, .int .u64 n.a.hi, .int .u64 n.a.lo]) w := fun n => by simp [part, hA, hz]
  have p1 : ∀ n : Net, (part 3 #[.bool n.a.v6, .int .u64 n.a.hi, .int .u64 n.a.lo, .int .i64 n.n] 3).run Tryz.prog w = .ok (.int .i64 n.n) w := fun n => part_one w _ _ _ _ (h3 w) rfl
  have q0 := eqInAdr d m.a n.a w
  have q1 : (Op.equalIn (d + 2) 3 (.int .i64 m.n) (.int .i64 n.n)).run Tryz.prog w = .ok (m.n == n.n) w := run_equalIn_int w (d + 1) _ _ _ _ _ Tryz.underlying3
  simp only [Op.eqFields, Sem.run_bind, Sem.run_ite, p0, p1, q0, q1, Result.andThen_ok, sameN]
  cases (sameA m.a n.a) <;> cases (m.n == n.n) <;> simp
theorem eqBan (m n : Ban) (w : World) : (binOp .eql 40 (.agg #[.bool m.n.a.v6, .int .u64 m.n.a.hi, .int .u64 m.n.a.lo, .int .i64 m.n.n, .int .i64 m.t]) (.agg #[.bool n.n.a.v6, .int .u64 n.n.a.hi, .int .u64 n.n.a.lo, .int .i64 n.n.n, .int .i64 n.t])).run Tryz.prog w = .ok (.bool (sameB m n)) w := by
  have hA : ∀ w : World, (isAgg 38).run Tryz.prog w = .ok true w := fun _ => by kernel_rfl
  have hz : ∀ w : World, (sizeOf 38).run Tryz.prog w = .ok 4 w := fun _ => by kernel_rfl
  have h3 : ∀ w : World, (isAgg 3).run Tryz.prog w = .ok false w := fun _ => by kernel_rfl
  rw [run_eql_struct, run_equalIn_struct w 9999 _ _ _ (by kernel_rfl) (by kernel_rfl)]
  rw [show (Tryz.prog.fieldsOf 40).toList = [⟨"Net", 38, 0, false, "", "", 0⟩, ⟨"Until", 3, 4, false, "", "", 32⟩] from by kernel_rfl]
  have p0 : ∀ n : Ban, (part 38 #[.bool n.n.a.v6, .int .u64 n.n.a.hi, .int .u64 n.n.a.lo, .int .i64 n.n.n, .int .i64 n.t] 0).run Tryz.prog w = .ok (.agg #[.bool n.n.a.v6, .int .u64 n.n.a.hi, .int .u64 n.n.a.lo, .int .i64 n.n.n]) w := fun n => by simp [part, hA, hz]
  have p1 : ∀ n : Ban, (part 3 #[.bool n.n.a.v6, .int .u64 n.n.a.hi, .int .u64 n.n.a.lo, .int .i64 n.n.n, .int .i64 n.t] 4).run Tryz.prog w = .ok (.int .i64 n.t) w := fun n => part_one w _ _ _ _ (h3 w) rfl
  have q0 := eqInNet 9996 m.n n.n w
  have q1 : (Op.equalIn 9999 3 (.int .i64 m.t) (.int .i64 n.t)).run Tryz.prog w = .ok (m.t == n.t) w := run_equalIn_int w 9998 _ _ _ _ _ Tryz.underlying3
  simp only [Op.eqFields, Sem.run_bind, Sem.run_ite, p0, p1, q0, q1, Result.andThen_ok, sameB]
  cases (sameN m.n n.n) <;> cases (m.t == n.t) <;> simp
theorem neqBan (m n : Ban) (w : World) : (binOp .neq 40 (.agg #[.bool m.n.a.v6, .int .u64 m.n.a.hi, .int .u64 m.n.a.lo, .int .i64 m.n.n, .int .i64 m.t]) (.agg #[.bool n.n.a.v6, .int .u64 n.n.a.hi, .int .u64 n.n.a.lo, .int .i64 n.n.n, .int .i64 n.t])).run Tryz.prog w = .ok (.bool (!sameB m n)) w := by
  have h := eqBan m n w
  rw [run_eql_struct] at h
  rw [run_neq_struct]
  generalize (Op.equalIn 10000 40 (.agg #[.bool m.n.a.v6, .int .u64 m.n.a.hi, .int .u64 m.n.a.lo, .int .i64 m.n.n, .int .i64 m.t]) (.agg #[.bool n.n.a.v6, .int .u64 n.n.a.hi, .int .u64 n.n.a.lo, .int .i64 n.n.n, .int .i64 n.t])).run Tryz.prog w = r at h
  cases r with
  | ok x w' =>
    simp only [Result.andThen_ok, Result.ok.injEq, Value.bool.injEq] at h ⊢
    obtain ⟨rfl, rfl⟩ := h
    exact ⟨rfl, rfl⟩
  | halt x w' => cases h
def ParseBan (l : List UInt8) (w : World) (e : Ending) (w' : World) : Prop := e = .returned (.tuple #[.agg #[.bool (parseB l).n.a.v6, .int .u64 (parseB l).n.a.hi, .int .u64 (parseB l).n.a.lo, .int .i64 (parseB l).n.n, .int .i64 (parseB l).t], .bool (okB l)]) ∧ Below w.heap.size w w'
theorem parseB_mk {l : List UInt8} {w w' : World} {e : Ending} {x : Ban} {b : Bool} (hx : parseB l = x) (hb : okB l = b) (he : e = .returned (.tuple #[.agg #[.bool x.n.a.v6, .int .u64 x.n.a.hi, .int .u64 x.n.a.lo, .int .i64 x.n.n, .int .i64 x.t], .bool b])) (h : Below w.heap.size w w') : ParseBan l w e w' := by
  subst hx hb; exact ⟨he, h⟩
theorem ban_cells {H : Type} {enc : TypeId × Value → H} {W : World} {fuel : Nat} {cs : List Value} {y : DataW H × List MemPlace}
    (hf : DataW.trod enc Tryz.prog W 0 (fun _ => true) true fuel 40 cs = some y) (hl : cs.length = 5) : ∃ b : Ban, cs = encB b ∧ b.ok := by
  match cs, hl with
  | [c0, c1, c2, c3, c4], _ =>
  obtain ⟨y0, y1, m, _, _, h0, h1⟩ := trod_struct2 Tryz.underlying40 hf
  have k1 : Tryz.prog.cellsOf 3 = 1 := by kernel_rfl
  have k4 : Tryz.prog.cellsOf 38 = 4 := by kernel_rfl
  have h0' : DataW.trod enc Tryz.prog W 0 (fun _ => true) true m 38 (([c0, c1, c2, c3, c4].drop 0).take (Tryz.prog.cellsOf 38)) = some y0 := h0
  have h1' : DataW.trod enc Tryz.prog W 0 (fun _ => true) true m 3 (([c0, c1, c2, c3, c4].drop 4).take (Tryz.prog.cellsOf 3)) = some y1 := h1
  rw [k1] at h1'
  rw [k4] at h0'
  have g0 : DataW.trod enc Tryz.prog W 0 (fun _ => true) true m 38 [c0, c1, c2, c3] = some y0 := h0'
  have g1 : DataW.trod enc Tryz.prog W 0 (fun _ => true) true m 3 [c4] = some y1 := h1'
  obtain ⟨x1, j1, _, w1⟩ := DataW.trod_int Tryz.underlying3 g1
  obtain ⟨N, hN, jN⟩ := net_cells (ta := 36) (tb := 4) (tu := 34) (ti := 3) Tryz.underlying38 rfl rfl Tryz.underlying36 (by kernel_rfl) rfl rfl (by kernel_rfl) (by kernel_rfl) (by kernel_rfl) rfl rfl rfl Tryz.underlying4 Tryz.underlying34 Tryz.underlying3 g0
  simp only [List.cons.injEq, and_true] at j1 jN
  obtain ⟨rfl, rfl, rfl, rfl⟩ := jN
  subst j1
  exact ⟨⟨N, x1⟩, rfl, hN, wf64 w1⟩
theorem open_ban {H : Type} {enc : TypeId × Value → H} {W : World} {v : Value} {d : DataW H} {ps : List MemPlace} {r : Reach} {b0 : Nat}
    (hval : Value.okWide Tryz.prog W r b0 40 v) (h : DataW.Trod enc Tryz.prog W 0 (fun _ => true) true 40 v d ps) : ∃ b : Ban, b.ok ∧ v = .agg #[.bool b.n.a.v6, .int .u64 b.n.a.hi, .int .u64 b.n.a.lo, .int .i64 b.n.n, .int .i64 b.t] := by
  obtain ⟨cs, rfl, hsz⟩ := okWide_struct Tryz.underlying40 hval
  have hC : Tryz.prog.cellsOf 40 = 5 := by kernel_rfl
  obtain ⟨fuel, hf⟩ := h
  obtain ⟨b, hb, hk⟩ := ban_cells hf (by show cs.toList.length = 5; rw [Array.length_toList, hsz, hC])
  refine ⟨b, hk, ?_⟩
  have e : cs = (encB b).toArray := by
    have : cs.toList = encB b := hb
    rw [← this]
  rw [e]; rfl
theorem open_bans {H : Type} {enc : TypeId × Value → H} {W : World} {v : Value} {d : DataW H} {ps : List MemPlace} {r : Reach} {b0 : Nat}
    (hval : Value.okWide Tryz.prog W r b0 22 v) (h : DataW.Trod enc Tryz.prog W 0 (fun _ => true) true 22 v d ps) : ∃ xs : List Ban, Bans W v xs ∧ xs.length ≤ 9223372036854775807 ∧ ∀ x ∈ xs, x.ok :=
  open_recs (encR := encB) (good := Ban.ok) Tryz.underlying22 (by kernel_rfl) (by decide) (fun _ _ _ hf hl => ban_cells hf hl) hval h
end Go.Proofs.YtefkolkagebffaaGreatDoor
