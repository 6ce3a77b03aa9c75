/- The first statement of layer 25, proved: what becomes of any entry, by any conf, at any ticks. -/
import Derived.Test.YtnknhmfhejdbfaaLaw25
namespace Go.Proofs.Ytnknhmfhejdbfaa
set_option maxRecDepth 100000
open Go.ChangeShapes Go.WideShapes Go.ChangeAt Go.RowKit
open Ad Ci En Sat Bk Et Go.Deep
set_option linter.unusedVariables false
set_option maxHeartbeats 16000000 in
theorem entryTells_walk (w : World) (c : Cf) (hc : c.ok) (y : Ey) (hy : y.ok) (i j : Int) (hi : -9223372036854775808 ≤ i ∧ i ≤ 9223372036854775807) (hj : -9223372036854775808 ≤ j ∧ j ≤ 9223372036854775807) :
    Calls Try.prog 3 #[.agg #[.int .i64 c.mi, .int .i64 c.mo, .int .i64 c.sh, .int .i64 c.mb, .int .i64 c.bo, .int .u64 (c.s : Nat), .int .i64 c.qg, .int .i64 c.qp, .int .i64 c.qw, .int .i64 c.qt, .int .i64 c.half, .int .i64 c.lim, .int .i64 c.bf, .int .i64 c.base, .int .i64 c.cap, .int .i64 c.jit], .agg #[.bool y.e.a.v6, .int .u64 y.e.a.hi, .int .u64 y.e.a.lo, .int .i64 y.e.n, .int .i64 y.st, .int .i64 y.f, .int .i64 y.nx], .agg #[.int .i64 i, .int .i64 j]] w fun e w' => e = .returned (.bool true) ∧ Below w.heap.size w w' := by
  obtain ⟨y1, h1⟩ : ∃ q, q = newY y.e i := ⟨_, rfl⟩
  obtain ⟨y2, h2⟩ : ∃ q, q = stateY y 2 := ⟨_, rfl⟩
  obtain ⟨y3, h3⟩ : ∃ q, q = failY c y i j := ⟨_, rfl⟩
  obtain ⟨y4, h4⟩ : ∃ q, q = goodY y := ⟨_, rfl⟩
  obtain ⟨y5, h5⟩ : ∃ q, q = stateY y 1 := ⟨_, rfl⟩
  have C1 := Lib.hid (fun W => rightY_any y hy W)
  have C2 := Lib.hid (fun W => rrightY_any y hy W)
  have C3 := Lib.hid (fun W => by have k := newY_any y.e i W; rwa [← h1] at k)
  have C4 := Lib.hid (fun W => by have k := rnewY_any y.e i W; rwa [← h1] at k)
  have C5 := Lib.hid (fun W => due_any y i W)
  have C6 := Lib.hid (fun W => rdue_any y i W)
  have C7 := Lib.hid (fun W => by have k := fly_any y W; rwa [← h2] at k)
  have C8 := Lib.hid (fun W => by have k := rstate_any y 2 W; rwa [← h2] at k)
  have C9 := Lib.hid (fun W => by have k := fail_any c hc y hy i j hj W; rwa [← h3] at k)
  have C10 := Lib.hid (fun W => by have k := rfail_any c hc y hy i j hj W; rwa [← h3] at k)
  have C11 := Lib.hid (fun W => by have k := good_any y W; rwa [← h4] at k)
  have C12 := Lib.hid (fun W => by have k := rgood_any y W; rwa [← h4] at k)
  have C13 := Lib.hid (fun W => by have k := down_any y W; rwa [← h5] at k)
  have C14 := Lib.hid (fun W => by have k := rstate_any y 1 W; rwa [← h5] at k)
  have AW := Lib.hid (fun W => awake25_any W)
  have EQ1 := fun W => eqEntry_self y1 W
  have EQ2 := fun W => eqEntry_self y2 W
  have EQ3 := fun W => eqEntry_self y3 W
  have EQ4 := fun W => eqEntry_self y4 W
  have EQ5 := fun W => eqEntry_self y5 W
  generalize rightY y = r at *
  generalize dueY y i = d at *
  clear h1 h2 h3 h4 h5 hc hy hi hj
  obtain ⟨W1, hW1⟩ : ∃ W1, W1 = (((w.alloc (.cells #[.int .i64 c.mi, .int .i64 c.mo, .int .i64 c.sh, .int .i64 c.mb, .int .i64 c.bo, .int .u64 (c.s : Nat), .int .i64 c.qg, .int .i64 c.qp, .int .i64 c.qw, .int .i64 c.qt, .int .i64 c.half, .int .i64 c.lim, .int .i64 c.bf, .int .i64 c.base, .int .i64 c.cap, .int .i64 c.jit] 26)).alloc (.cells #[.bool y.e.a.v6, .int .u64 y.e.a.hi, .int .u64 y.e.a.lo, .int .i64 y.e.n, .int .i64 y.st, .int .i64 y.f, .int .i64 y.nx] 32)).alloc (.cells #[.int .i64 i, .int .i64 j] 33)) := ⟨_, rfl⟩
  have L0 : Hid (Below w.heap.size w W1) := Lib.hid (by rw [hW1]; exact Lows.alloc (Lows.alloc (Lows.alloc (Lows.self w) _) _) _)
  have OA : Hid (Blk W1 w.heap.size 26 [.int .i64 c.mi, .int .i64 c.mo, .int .i64 c.sh, .int .i64 c.mb, .int .i64 c.bo, .int .u64 (c.s : Nat), .int .i64 c.qg, .int .i64 c.qp, .int .i64 c.qw, .int .i64 c.qt, .int .i64 c.half, .int .i64 c.lim, .int .i64 c.bf, .int .i64 c.base, .int .i64 c.cap, .int .i64 c.jit]) := Lib.hid (by rw [hW1]; exact ((Blk.new w #[.int .i64 c.mi, .int .i64 c.mo, .int .i64 c.sh, .int .i64 c.mb, .int .i64 c.bo, .int .u64 (c.s : Nat), .int .i64 c.qg, .int .i64 c.qp, .int .i64 c.qw, .int .i64 c.qt, .int .i64 c.half, .int .i64 c.lim, .int .i64 c.bf, .int .i64 c.base, .int .i64 c.cap, .int .i64 c.jit] 26).alloc (.cells #[.bool y.e.a.v6, .int .u64 y.e.a.hi, .int .u64 y.e.a.lo, .int .i64 y.e.n, .int .i64 y.st, .int .i64 y.f, .int .i64 y.nx] 32)).alloc (.cells #[.int .i64 i, .int .i64 j] 33))
  have OB : Hid (Blk W1 (w.heap.size + 1) 32 [.bool y.e.a.v6, .int .u64 y.e.a.hi, .int .u64 y.e.a.lo, .int .i64 y.e.n, .int .i64 y.st, .int .i64 y.f, .int .i64 y.nx]) := Lib.hid (by rw [hW1]; exact (Blk.two w (.cells #[.int .i64 c.mi, .int .i64 c.mo, .int .i64 c.sh, .int .i64 c.mb, .int .i64 c.bo, .int .u64 (c.s : Nat), .int .i64 c.qg, .int .i64 c.qp, .int .i64 c.qw, .int .i64 c.qt, .int .i64 c.half, .int .i64 c.lim, .int .i64 c.bf, .int .i64 c.base, .int .i64 c.cap, .int .i64 c.jit] 26) #[.bool y.e.a.v6, .int .u64 y.e.a.hi, .int .u64 y.e.a.lo, .int .i64 y.e.n, .int .i64 y.st, .int .i64 y.f, .int .i64 y.nx] 32).alloc (.cells #[.int .i64 i, .int .i64 j] 33))
  have OL : Hid (Blk W1 (w.heap.size + 2) 33 [.int .i64 i, .int .i64 j]) := Lib.hid (by rw [hW1]; exact Blk.three w (.cells #[.int .i64 c.mi, .int .i64 c.mo, .int .i64 c.sh, .int .i64 c.mb, .int .i64 c.bo, .int .u64 (c.s : Nat), .int .i64 c.qg, .int .i64 c.qp, .int .i64 c.qw, .int .i64 c.qt, .int .i64 c.half, .int .i64 c.lim, .int .i64 c.bf, .int .i64 c.base, .int .i64 c.cap, .int .i64 c.jit] 26) (.cells #[.bool y.e.a.v6, .int .u64 y.e.a.hi, .int .u64 y.e.a.lo, .int .i64 y.e.n, .int .i64 y.st, .int .i64 y.f, .int .i64 y.nx] 32) #[.int .i64 i, .int .i64 j] 33)
  go_enter Try.func3, Try.ntmps3
  go_wp2_with fail
  rw [← hW1]
  clear hW1
  as_aux_lemma =>
    have hne : Nonempty (Cls (Lows W1)) := ⟨⟨_, Lows.self _⟩⟩
    have f0 : ∀ nq : Cls (Lows W1), nq.w.cell? ⟨w.heap.size, 0, none⟩ = some (.int .i64 c.mi) := fun nq => Blk.in OA nq.h rfl
    have f1 : ∀ nq : Cls (Lows W1), nq.w.cell? ⟨w.heap.size, 1, none⟩ = some (.int .i64 c.mo) := fun nq => Blk.in OA nq.h rfl
    have f2 : ∀ nq : Cls (Lows W1), nq.w.cell? ⟨w.heap.size, 2, none⟩ = some (.int .i64 c.sh) := fun nq => Blk.in OA nq.h rfl
    have f3 : ∀ nq : Cls (Lows W1), nq.w.cell? ⟨w.heap.size, 3, none⟩ = some (.int .i64 c.mb) := fun nq => Blk.in OA nq.h rfl
    have f4 : ∀ nq : Cls (Lows W1), nq.w.cell? ⟨w.heap.size, 4, none⟩ = some (.int .i64 c.bo) := fun nq => Blk.in OA nq.h rfl
    have f5 : ∀ nq : Cls (Lows W1), nq.w.cell? ⟨w.heap.size, 5, none⟩ = some (.int .u64 (c.s : Nat)) := fun nq => Blk.in OA nq.h rfl
    have f6 : ∀ nq : Cls (Lows W1), nq.w.cell? ⟨w.heap.size, 6, none⟩ = some (.int .i64 c.qg) := fun nq => Blk.in OA nq.h rfl
    have f7 : ∀ nq : Cls (Lows W1), nq.w.cell? ⟨w.heap.size, 7, none⟩ = some (.int .i64 c.qp) := fun nq => Blk.in OA nq.h rfl
    have f8 : ∀ nq : Cls (Lows W1), nq.w.cell? ⟨w.heap.size, 8, none⟩ = some (.int .i64 c.qw) := fun nq => Blk.in OA nq.h rfl
    have f9 : ∀ nq : Cls (Lows W1), nq.w.cell? ⟨w.heap.size, 9, none⟩ = some (.int .i64 c.qt) := fun nq => Blk.in OA nq.h rfl
    have f10 : ∀ nq : Cls (Lows W1), nq.w.cell? ⟨w.heap.size, 10, none⟩ = some (.int .i64 c.half) := fun nq => Blk.in OA nq.h rfl
    have f11 : ∀ nq : Cls (Lows W1), nq.w.cell? ⟨w.heap.size, 11, none⟩ = some (.int .i64 c.lim) := fun nq => Blk.in OA nq.h rfl
    have f12 : ∀ nq : Cls (Lows W1), nq.w.cell? ⟨w.heap.size, 12, none⟩ = some (.int .i64 c.bf) := fun nq => Blk.in OA nq.h rfl
    have f13 : ∀ nq : Cls (Lows W1), nq.w.cell? ⟨w.heap.size, 13, none⟩ = some (.int .i64 c.base) := fun nq => Blk.in OA nq.h rfl
    have f14 : ∀ nq : Cls (Lows W1), nq.w.cell? ⟨w.heap.size, 14, none⟩ = some (.int .i64 c.cap) := fun nq => Blk.in OA nq.h rfl
    have f15 : ∀ nq : Cls (Lows W1), nq.w.cell? ⟨w.heap.size, 15, none⟩ = some (.int .i64 c.jit) := fun nq => Blk.in OA nq.h rfl
    have f16 : ∀ nq : Cls (Lows W1), nq.w.cell? ⟨(w.heap.size + 1), 0, none⟩ = some (.bool y.e.a.v6) := fun nq => Blk.in OB nq.h rfl
    have f17 : ∀ nq : Cls (Lows W1), nq.w.cell? ⟨(w.heap.size + 1), 1, none⟩ = some (.int .u64 y.e.a.hi) := fun nq => Blk.in OB nq.h rfl
    have f18 : ∀ nq : Cls (Lows W1), nq.w.cell? ⟨(w.heap.size + 1), 2, none⟩ = some (.int .u64 y.e.a.lo) := fun nq => Blk.in OB nq.h rfl
    have f19 : ∀ nq : Cls (Lows W1), nq.w.cell? ⟨(w.heap.size + 1), 3, none⟩ = some (.int .i64 y.e.n) := fun nq => Blk.in OB nq.h rfl
    have f20 : ∀ nq : Cls (Lows W1), nq.w.cell? ⟨(w.heap.size + 1), 4, none⟩ = some (.int .i64 y.st) := fun nq => Blk.in OB nq.h rfl
    have f21 : ∀ nq : Cls (Lows W1), nq.w.cell? ⟨(w.heap.size + 1), 5, none⟩ = some (.int .i64 y.f) := fun nq => Blk.in OB nq.h rfl
    have f22 : ∀ nq : Cls (Lows W1), nq.w.cell? ⟨(w.heap.size + 1), 6, none⟩ = some (.int .i64 y.nx) := fun nq => Blk.in OB nq.h rfl
    have f23 : ∀ nq : Cls (Lows W1), nq.w.cell? ⟨(w.heap.size + 2), 0, none⟩ = some (.int .i64 i) := fun nq => Blk.in OL nq.h rfl
    have f24 : ∀ nq : Cls (Lows W1), nq.w.cell? ⟨(w.heap.size + 2), 1, none⟩ = some (.int .i64 j) := fun nq => Blk.in OL nq.h rfl
    refine Cls.region (Lows W1) (by as_aux_lemma => kernel_rfl) (by as_aux_lemma => kernel_rfl) (low_drewN (Below.refl _ _) 1) ?_
    (try dsimp only [List.append])
    as_aux_lemma =>
      iterate 6 (go_big_quiet_step (first | fail | (with_reducible exact Cls.call ((lows_call C1).out _ (Cls.h _))) | (with_reducible exact Cls.call ((lows_call C2).out _ (Cls.h _))) | (with_reducible exact Cls.call ((lows_call C3).out _ (Cls.h _))) | (with_reducible exact Cls.call ((lows_call C4).out _ (Cls.h _))) | (with_reducible exact Cls.call ((lows_call C5).out _ (Cls.h _))) | (with_reducible exact Cls.call ((lows_call C6).out _ (Cls.h _))) | (with_reducible exact Cls.call ((lows_call C7).out _ (Cls.h _))) | (with_reducible exact Cls.call ((lows_call C8).out _ (Cls.h _))) | (with_reducible exact Cls.call ((lows_call C9).out _ (Cls.h _))) | (with_reducible exact Cls.call ((lows_call C10).out _ (Cls.h _))) | (with_reducible exact Cls.call ((lows_call C11).out _ (Cls.h _))) | (with_reducible exact Cls.call ((lows_call C12).out _ (Cls.h _))) | (with_reducible exact Cls.call ((lows_call C13).out _ (Cls.h _))) | (with_reducible exact Cls.call ((lows_call C14).out _ (Cls.h _))) | (with_reducible exact Cls.call ((lows_call AW).out _ (Cls.h _)))))
      as_aux_lemma =>
        iterate 6 (go_big_quiet_step (first | fail | (with_reducible exact Cls.call ((lows_call C1).out _ (Cls.h _))) | (with_reducible exact Cls.call ((lows_call C2).out _ (Cls.h _))) | (with_reducible exact Cls.call ((lows_call C3).out _ (Cls.h _))) | (with_reducible exact Cls.call ((lows_call C4).out _ (Cls.h _))) | (with_reducible exact Cls.call ((lows_call C5).out _ (Cls.h _))) | (with_reducible exact Cls.call ((lows_call C6).out _ (Cls.h _))) | (with_reducible exact Cls.call ((lows_call C7).out _ (Cls.h _))) | (with_reducible exact Cls.call ((lows_call C8).out _ (Cls.h _))) | (with_reducible exact Cls.call ((lows_call C9).out _ (Cls.h _))) | (with_reducible exact Cls.call ((lows_call C10).out _ (Cls.h _))) | (with_reducible exact Cls.call ((lows_call C11).out _ (Cls.h _))) | (with_reducible exact Cls.call ((lows_call C12).out _ (Cls.h _))) | (with_reducible exact Cls.call ((lows_call C13).out _ (Cls.h _))) | (with_reducible exact Cls.call ((lows_call C14).out _ (Cls.h _))) | (with_reducible exact Cls.call ((lows_call AW).out _ (Cls.h _)))))
        as_aux_lemma =>
          iterate 6 (go_big_quiet_step (first | fail | (with_reducible exact Cls.call ((lows_call C1).out _ (Cls.h _))) | (with_reducible exact Cls.call ((lows_call C2).out _ (Cls.h _))) | (with_reducible exact Cls.call ((lows_call C3).out _ (Cls.h _))) | (with_reducible exact Cls.call ((lows_call C4).out _ (Cls.h _))) | (with_reducible exact Cls.call ((lows_call C5).out _ (Cls.h _))) | (with_reducible exact Cls.call ((lows_call C6).out _ (Cls.h _))) | (with_reducible exact Cls.call ((lows_call C7).out _ (Cls.h _))) | (with_reducible exact Cls.call ((lows_call C8).out _ (Cls.h _))) | (with_reducible exact Cls.call ((lows_call C9).out _ (Cls.h _))) | (with_reducible exact Cls.call ((lows_call C10).out _ (Cls.h _))) | (with_reducible exact Cls.call ((lows_call C11).out _ (Cls.h _))) | (with_reducible exact Cls.call ((lows_call C12).out _ (Cls.h _))) | (with_reducible exact Cls.call ((lows_call C13).out _ (Cls.h _))) | (with_reducible exact Cls.call ((lows_call C14).out _ (Cls.h _))) | (with_reducible exact Cls.call ((lows_call AW).out _ (Cls.h _)))))
          as_aux_lemma =>
            iterate 6 (go_big_quiet_step (first | fail | (with_reducible exact Cls.call ((lows_call C1).out _ (Cls.h _))) | (with_reducible exact Cls.call ((lows_call C2).out _ (Cls.h _))) | (with_reducible exact Cls.call ((lows_call C3).out _ (Cls.h _))) | (with_reducible exact Cls.call ((lows_call C4).out _ (Cls.h _))) | (with_reducible exact Cls.call ((lows_call C5).out _ (Cls.h _))) | (with_reducible exact Cls.call ((lows_call C6).out _ (Cls.h _))) | (with_reducible exact Cls.call ((lows_call C7).out _ (Cls.h _))) | (with_reducible exact Cls.call ((lows_call C8).out _ (Cls.h _))) | (with_reducible exact Cls.call ((lows_call C9).out _ (Cls.h _))) | (with_reducible exact Cls.call ((lows_call C10).out _ (Cls.h _))) | (with_reducible exact Cls.call ((lows_call C11).out _ (Cls.h _))) | (with_reducible exact Cls.call ((lows_call C12).out _ (Cls.h _))) | (with_reducible exact Cls.call ((lows_call C13).out _ (Cls.h _))) | (with_reducible exact Cls.call ((lows_call C14).out _ (Cls.h _))) | (with_reducible exact Cls.call ((lows_call AW).out _ (Cls.h _)))))
            as_aux_lemma =>
              iterate 6 (go_big_quiet_step (first | fail | (with_reducible exact Cls.call ((lows_call C1).out _ (Cls.h _))) | (with_reducible exact Cls.call ((lows_call C2).out _ (Cls.h _))) | (with_reducible exact Cls.call ((lows_call C3).out _ (Cls.h _))) | (with_reducible exact Cls.call ((lows_call C4).out _ (Cls.h _))) | (with_reducible exact Cls.call ((lows_call C5).out _ (Cls.h _))) | (with_reducible exact Cls.call ((lows_call C6).out _ (Cls.h _))) | (with_reducible exact Cls.call ((lows_call C7).out _ (Cls.h _))) | (with_reducible exact Cls.call ((lows_call C8).out _ (Cls.h _))) | (with_reducible exact Cls.call ((lows_call C9).out _ (Cls.h _))) | (with_reducible exact Cls.call ((lows_call C10).out _ (Cls.h _))) | (with_reducible exact Cls.call ((lows_call C11).out _ (Cls.h _))) | (with_reducible exact Cls.call ((lows_call C12).out _ (Cls.h _))) | (with_reducible exact Cls.call ((lows_call C13).out _ (Cls.h _))) | (with_reducible exact Cls.call ((lows_call C14).out _ (Cls.h _))) | (with_reducible exact Cls.call ((lows_call AW).out _ (Cls.h _)))))
              as_aux_lemma =>
                iterate 6 (go_big_quiet_step (first | fail | (with_reducible exact Cls.call ((lows_call C1).out _ (Cls.h _))) | (with_reducible exact Cls.call ((lows_call C2).out _ (Cls.h _))) | (with_reducible exact Cls.call ((lows_call C3).out _ (Cls.h _))) | (with_reducible exact Cls.call ((lows_call C4).out _ (Cls.h _))) | (with_reducible exact Cls.call ((lows_call C5).out _ (Cls.h _))) | (with_reducible exact Cls.call ((lows_call C6).out _ (Cls.h _))) | (with_reducible exact Cls.call ((lows_call C7).out _ (Cls.h _))) | (with_reducible exact Cls.call ((lows_call C8).out _ (Cls.h _))) | (with_reducible exact Cls.call ((lows_call C9).out _ (Cls.h _))) | (with_reducible exact Cls.call ((lows_call C10).out _ (Cls.h _))) | (with_reducible exact Cls.call ((lows_call C11).out _ (Cls.h _))) | (with_reducible exact Cls.call ((lows_call C12).out _ (Cls.h _))) | (with_reducible exact Cls.call ((lows_call C13).out _ (Cls.h _))) | (with_reducible exact Cls.call ((lows_call C14).out _ (Cls.h _))) | (with_reducible exact Cls.call ((lows_call AW).out _ (Cls.h _)))))
                as_aux_lemma =>
                  iterate 6 (go_big_quiet_step (first | fail | (with_reducible exact Cls.call ((lows_call C1).out _ (Cls.h _))) | (with_reducible exact Cls.call ((lows_call C2).out _ (Cls.h _))) | (with_reducible exact Cls.call ((lows_call C3).out _ (Cls.h _))) | (with_reducible exact Cls.call ((lows_call C4).out _ (Cls.h _))) | (with_reducible exact Cls.call ((lows_call C5).out _ (Cls.h _))) | (with_reducible exact Cls.call ((lows_call C6).out _ (Cls.h _))) | (with_reducible exact Cls.call ((lows_call C7).out _ (Cls.h _))) | (with_reducible exact Cls.call ((lows_call C8).out _ (Cls.h _))) | (with_reducible exact Cls.call ((lows_call C9).out _ (Cls.h _))) | (with_reducible exact Cls.call ((lows_call C10).out _ (Cls.h _))) | (with_reducible exact Cls.call ((lows_call C11).out _ (Cls.h _))) | (with_reducible exact Cls.call ((lows_call C12).out _ (Cls.h _))) | (with_reducible exact Cls.call ((lows_call C13).out _ (Cls.h _))) | (with_reducible exact Cls.call ((lows_call C14).out _ (Cls.h _))) | (with_reducible exact Cls.call ((lows_call AW).out _ (Cls.h _)))))
                  as_aux_lemma =>
                    iterate 6 (go_big_quiet_step (first | fail | (with_reducible exact Cls.call ((lows_call C1).out _ (Cls.h _))) | (with_reducible exact Cls.call ((lows_call C2).out _ (Cls.h _))) | (with_reducible exact Cls.call ((lows_call C3).out _ (Cls.h _))) | (with_reducible exact Cls.call ((lows_call C4).out _ (Cls.h _))) | (with_reducible exact Cls.call ((lows_call C5).out _ (Cls.h _))) | (with_reducible exact Cls.call ((lows_call C6).out _ (Cls.h _))) | (with_reducible exact Cls.call ((lows_call C7).out _ (Cls.h _))) | (with_reducible exact Cls.call ((lows_call C8).out _ (Cls.h _))) | (with_reducible exact Cls.call ((lows_call C9).out _ (Cls.h _))) | (with_reducible exact Cls.call ((lows_call C10).out _ (Cls.h _))) | (with_reducible exact Cls.call ((lows_call C11).out _ (Cls.h _))) | (with_reducible exact Cls.call ((lows_call C12).out _ (Cls.h _))) | (with_reducible exact Cls.call ((lows_call C13).out _ (Cls.h _))) | (with_reducible exact Cls.call ((lows_call C14).out _ (Cls.h _))) | (with_reducible exact Cls.call ((lows_call AW).out _ (Cls.h _)))))
                    as_aux_lemma =>
                      iterate 6 (go_big_quiet_step (first | fail | (with_reducible exact Cls.call ((lows_call C1).out _ (Cls.h _))) | (with_reducible exact Cls.call ((lows_call C2).out _ (Cls.h _))) | (with_reducible exact Cls.call ((lows_call C3).out _ (Cls.h _))) | (with_reducible exact Cls.call ((lows_call C4).out _ (Cls.h _))) | (with_reducible exact Cls.call ((lows_call C5).out _ (Cls.h _))) | (with_reducible exact Cls.call ((lows_call C6).out _ (Cls.h _))) | (with_reducible exact Cls.call ((lows_call C7).out _ (Cls.h _))) | (with_reducible exact Cls.call ((lows_call C8).out _ (Cls.h _))) | (with_reducible exact Cls.call ((lows_call C9).out _ (Cls.h _))) | (with_reducible exact Cls.call ((lows_call C10).out _ (Cls.h _))) | (with_reducible exact Cls.call ((lows_call C11).out _ (Cls.h _))) | (with_reducible exact Cls.call ((lows_call C12).out _ (Cls.h _))) | (with_reducible exact Cls.call ((lows_call C13).out _ (Cls.h _))) | (with_reducible exact Cls.call ((lows_call C14).out _ (Cls.h _))) | (with_reducible exact Cls.call ((lows_call AW).out _ (Cls.h _)))))
                      as_aux_lemma =>
                        iterate 6 (go_big_quiet_step (first | fail | (with_reducible exact Cls.call ((lows_call C1).out _ (Cls.h _))) | (with_reducible exact Cls.call ((lows_call C2).out _ (Cls.h _))) | (with_reducible exact Cls.call ((lows_call C3).out _ (Cls.h _))) | (with_reducible exact Cls.call ((lows_call C4).out _ (Cls.h _))) | (with_reducible exact Cls.call ((lows_call C5).out _ (Cls.h _))) | (with_reducible exact Cls.call ((lows_call C6).out _ (Cls.h _))) | (with_reducible exact Cls.call ((lows_call C7).out _ (Cls.h _))) | (with_reducible exact Cls.call ((lows_call C8).out _ (Cls.h _))) | (with_reducible exact Cls.call ((lows_call C9).out _ (Cls.h _))) | (with_reducible exact Cls.call ((lows_call C10).out _ (Cls.h _))) | (with_reducible exact Cls.call ((lows_call C11).out _ (Cls.h _))) | (with_reducible exact Cls.call ((lows_call C12).out _ (Cls.h _))) | (with_reducible exact Cls.call ((lows_call C13).out _ (Cls.h _))) | (with_reducible exact Cls.call ((lows_call C14).out _ (Cls.h _))) | (with_reducible exact Cls.call ((lows_call AW).out _ (Cls.h _)))))
                        as_aux_lemma =>
                          iterate 6 (go_big_quiet_step (first | fail | (with_reducible exact Cls.call ((lows_call C1).out _ (Cls.h _))) | (with_reducible exact Cls.call ((lows_call C2).out _ (Cls.h _))) | (with_reducible exact Cls.call ((lows_call C3).out _ (Cls.h _))) | (with_reducible exact Cls.call ((lows_call C4).out _ (Cls.h _))) | (with_reducible exact Cls.call ((lows_call C5).out _ (Cls.h _))) | (with_reducible exact Cls.call ((lows_call C6).out _ (Cls.h _))) | (with_reducible exact Cls.call ((lows_call C7).out _ (Cls.h _))) | (with_reducible exact Cls.call ((lows_call C8).out _ (Cls.h _))) | (with_reducible exact Cls.call ((lows_call C9).out _ (Cls.h _))) | (with_reducible exact Cls.call ((lows_call C10).out _ (Cls.h _))) | (with_reducible exact Cls.call ((lows_call C11).out _ (Cls.h _))) | (with_reducible exact Cls.call ((lows_call C12).out _ (Cls.h _))) | (with_reducible exact Cls.call ((lows_call C13).out _ (Cls.h _))) | (with_reducible exact Cls.call ((lows_call C14).out _ (Cls.h _))) | (with_reducible exact Cls.call ((lows_call AW).out _ (Cls.h _)))))
                          as_aux_lemma =>
                            repeat (go_big_quiet_step (first | fail | (with_reducible exact Cls.call ((lows_call C1).out _ (Cls.h _))) | (with_reducible exact Cls.call ((lows_call C2).out _ (Cls.h _))) | (with_reducible exact Cls.call ((lows_call C3).out _ (Cls.h _))) | (with_reducible exact Cls.call ((lows_call C4).out _ (Cls.h _))) | (with_reducible exact Cls.call ((lows_call C5).out _ (Cls.h _))) | (with_reducible exact Cls.call ((lows_call C6).out _ (Cls.h _))) | (with_reducible exact Cls.call ((lows_call C7).out _ (Cls.h _))) | (with_reducible exact Cls.call ((lows_call C8).out _ (Cls.h _))) | (with_reducible exact Cls.call ((lows_call C9).out _ (Cls.h _))) | (with_reducible exact Cls.call ((lows_call C10).out _ (Cls.h _))) | (with_reducible exact Cls.call ((lows_call C11).out _ (Cls.h _))) | (with_reducible exact Cls.call ((lows_call C12).out _ (Cls.h _))) | (with_reducible exact Cls.call ((lows_call C13).out _ (Cls.h _))) | (with_reducible exact Cls.call ((lows_call C14).out _ (Cls.h _))) | (with_reducible exact Cls.call ((lows_call AW).out _ (Cls.h _)))))
                            refine wpQuiet_nil ?_
                            intro n9
                            have hk9 := n9.h
                            generalize n9.w = w9 at hk9 ⊢
                            clear hne n9 f0 f1 f2 f3 f4 f5 f6 f7 f8 f9 f10 f11 f12 f13 f14 f15 f16 f17 f18 f19 f20 f21 f22 f23 f24
                            go_wp2
                            go_ret
                            exact ⟨rfl, low_trans L0.out hk9⟩
namespace entryTells
theorem contract (H : Type) (enc : TypeId × Value → H) (W : World) (base : Nat) (args : Array Value) (ds gs : List (DataW H)) (before : List MemPlace)
    (hval0 : ∀ (j : Nat) t v, Try.f3.params[j]? = some t → args[j]? = some v → Value.okWide Try.prog W .any base t v)
    (hW : DataW.Whole enc Try.prog Try.f3.params.toList Rows.entryTellsSpec.vars false W args.toList ds gs before) (hSh : W.ShapedOpen Try.prog) :
    Calls Try.prog 3 args W fun e W' => ∃ v, e = .returned v ∧ Rows.entryTellsSpec.post enc Try.prog Try.f3 false true false false W args v W' := by
  have hval : ∀ (j : Nat) t v, Try.f3.params[j]? = some t → args[j]? = some v → Value.okWide Try.prog W .any base t v := hval0
  have hW' := hW
  obtain ⟨p, q, hA0, hV, _, _, _⟩ := hW
  have hA : DataW.TrodAll enc Try.prog W 0 (fun _ => true) true Try.f3.params.toList args.toList ds p := hA0
  rw [Try.params3] at hA hval
  obtain ⟨v0, vs0, d0, ds0, p0, q0, hargs, rfl, rfl, h0, r0⟩ := trodAll_cons hA
  obtain ⟨v1, vs1, d1, ds1, p1, q1, rfl, rfl, rfl, h1, r1⟩ := trodAll_cons r0
  obtain ⟨v2, vs2, d2, ds2, p2, q2, rfl, rfl, rfl, h2, r2⟩ := trodAll_cons r1
  obtain ⟨rfl, rfl, rfl⟩ := trodAll_nil r2
  obtain rfl : args = #[v0, v1, v2] := by cases args; simp_all
  obtain ⟨rfl, rfl⟩ := trodVars_none hV
  obtain ⟨a0, z0, rfl⟩ := open_conf (hval 0 26 v0 rfl rfl) h0
  obtain ⟨a1, z1, rfl⟩ := open_entry (hval 1 32 v1 rfl rfl) h1
  obtain ⟨i2, j2, y2, z2, rfl⟩ := open_two (hval 2 33 v2 rfl rfl) h2
  clear hA0 hval0
  refine (entryTells_walk W a0 z0 a1 z1 i2 j2 y2 z2).mono fun e W' ⟨he, hg⟩ => ?_
  subst he
  exact ⟨_, rfl, post_law laidOut (by kernel_rfl) (by kernel_rfl) Try.underlying4 rfl hW' rfl rfl rfl hg⟩
set_option maxRecDepth 100000 in
theorem lifted (os : Os) (started : os.Started) (H : Type) (enc : TypeId × Value → H) (F : Stop.Interp) :
    ReturnsInHanded {} Try.checked os 3 .any ((OpenSpec.ofChange Rows.entryTellsSpec).preRow enc Try.prog Try.f3 Rows.entryTellsRow.domain false Rows.entryTellsRow.laid) (((OpenSpec.ofChange Rows.entryTellsSpec).at F).post enc Try.prog Try.f3 false true false false) := by
  refine returnsInHanded_of_row (C := Try.checked) (s := OpenSpec.ofChange Rows.entryTellsSpec) own started (by kernel_rfl) Try.func3
    (witness_laid (enc := enc) (C := Try.checked) (s := OpenSpec.ofChange Rows.entryTellsSpec) (laid := Rows.entryTellsRow.laid) #[.agg #[.int .i64 0, .int .i64 0, .int .i64 0, .int .i64 0, .int .i64 0, .int .u64 0, .int .i64 0, .int .i64 0, .int .i64 0, .int .i64 0, .int .i64 0, .int .i64 0, .int .i64 0, .int .i64 0, .int .i64 0, .int .i64 0], .agg #[.bool false, .int .u64 0, .int .u64 0, .int .i64 0, .int .i64 0, .int .i64 0, .int .i64 0], .agg #[.int .i64 0, .int .i64 0]] (World.shaped_of_ZipB (by kernel_rfl) (by kernel_rfl)) (by kernel_rfl)
      (OpenSpec.preRow_of_cond 8 (x := ([.agg [.lit (.int .i64 0), .lit (.int .i64 0), .lit (.int .i64 0), .lit (.int .i64 0), .lit (.int .i64 0), .lit (.int .u64 0), .agg [.lit (.int .i64 0), .lit (.int .i64 0), .lit (.int .i64 0), .lit (.int .i64 0)], .lit (.int .i64 0), .lit (.int .i64 0), .lit (.int .i64 0), .lit (.int .i64 0), .lit (.int .i64 0), .lit (.int .i64 0)], .agg [.agg [.agg [.lit (.bool false), .lit (.int .u64 0), .lit (.int .u64 0)], .lit (.int .i64 0)], .lit (.int .i64 0), .lit (.int .i64 0), .lit (.int .i64 0)], .agg [.lit (.int .i64 0), .lit (.int .i64 0)]], [], [])) (by kernel_rfl) (by kernel_rfl) (fun k hk => by cases hk) (by kernel_rfl)
        (by rw [MakeChecks.laidMetH_plain _ _ _ (by kernel_rfl)]; exact laidMet_laidAll _ (by kernel_rfl) (by kernel_rfl)))) ?_
  intro W base args ds gs before hval hW _ hcond _ _ hsh _
  exact contract H enc W base args ds gs before hval hW hsh
theorem over : Rows.entryTellsRow.holds Try.pinned (OpenSpec.ofChange Rows.entryTellsSpec) :=
  OpenClaim.holds_of_cond 3 Try.f3 rfl rfl rfl rfl rfl rfl rfl ⟨rfl, rfl, rfl, rfl, rfl⟩ rfl rfl rfl rfl rfl (by kernel_rfl) Try.func3 (by kernel_rfl)
    (of_decide_eq_true (by kernel_rfl)) (by unfold Func.isWrapper; first | (rw [if_pos (by decide +kernel)]; kernel_rfl) | (rw [if_neg (by decide +kernel)]; exact ⟨rfl, rfl⟩))
    (fun os started H enc _ F => by rw [OpenClaim.pre_eq_preRow]; exact lifted os started H enc F)
/-- ████ THE STATEMENT ████ -/
theorem proved : Rows.EntryTellsSaid := over
end entryTells
end Go.Proofs.Ytnknhmfhejdbfaa
