/- The second statement of layer 23, proved: more failures never wait less; nobody waits longer than the cap and the little more; nobody may dial ahead of now. -/
import Derived.Test.YtihgbfpdnoaphaaLaw23
namespace Go.Proofs.Ytihgbfpdnoaphaa
set_option maxRecDepth 100000
open Go.ChangeShapes Go.WideShapes Go.ChangeAt Go.RowKit
open Sat Bk Go.Deep
set_option linter.unusedVariables false
set_option maxHeartbeats 16000000 in
theorem backoffGrows_walk (w : World) (c : Cf) (hc : c.ok) (u v : Int) (hu : -9223372036854775808 ≤ u ∧ u ≤ 9223372036854775807) (hv : -9223372036854775808 ≤ v ∧ v ≤ 9223372036854775807) (i j : Int) (hi : -9223372036854775808 ≤ i ∧ i ≤ 9223372036854775807) (hj : -9223372036854775808 ≤ j ∧ j ≤ 9223372036854775807) :
    Calls Try.prog 4 #[.agg #[.int .i64 c.mi, .int .i64 c.mo, .int .i64 c.sh, .int .i64 c.mb, .int .i64 c.bo, .int .u64 (c.s : Nat), .int .i64 c.qg, .int .i64 c.qp, .int .i64 c.qw, .int .i64 c.qt, .int .i64 c.half, .int .i64 c.lim, .int .i64 c.bf, .int .i64 c.base, .int .i64 c.cap, .int .i64 c.jit], .agg #[.int .i64 u, .int .i64 v], .agg #[.int .i64 i, .int .i64 j]] w fun e w' => e = .returned (.bool true) ∧ Below w.heap.size w w' := by
  obtain ⟨lo, M1⟩ : ∃ m : Int, min u v = m := ⟨_, rfl⟩
  obtain ⟨hi2, M2⟩ : ∃ m : Int, max u v = m := ⟨_, rfl⟩
  obtain ⟨mj, M3⟩ : ∃ m : Int, max c.jit 0 = m := ⟨_, rfl⟩
  have bl : -9223372036854775808 ≤ lo ∧ lo ≤ 9223372036854775807 := by omega
  have bh : -9223372036854775808 ≤ hi2 ∧ hi2 ≤ 9223372036854775807 := by omega
  have hle : lo ≤ hi2 := by omega
  have C1 := Lib.hid (fun W => delay_any c hc lo bl W)
  have C2 := Lib.hid (fun W => delay_any c hc hi2 bh W)
  have C3 := Lib.hid (fun W => next_any c hc lo j i bl hi W)
  have C4 := Lib.hid (fun W => next_any c hc hi2 j i bh hi W)
  have C5 := Lib.hid (fun W => rfit_any j W)
  have C6 := Lib.hid (fun W => radd_any j c.cap W)
  have C7 := Lib.hid (fun W => radd_any (add j c.cap) mj W)
  have AW := Lib.hid (fun W => awake23_any W)
  have LE1 := Lib.hid (delay_mono c hle)
  have LE2 := Lib.hid (next_from c hi2 j i)
  have LE3 : Hid (nextR c hi2 j i ≤ add (add j c.cap) mj) := Lib.hid (by rw [← M3]; exact next_most c hi2 j i)
  have LE4 := Lib.hid (next_mono c hle j i)
  generalize nextR c hi2 j i = n at *
  generalize nextR c lo j i = k at *
  generalize delayR c lo = d at *
  generalize delayR c hi2 = q at *
  generalize add (add j c.cap) mj = most at *
  generalize add j c.cap = a at *
  generalize fit j = fj at *
  clear hc hi hj hu hv bl bh hle
  obtain ⟨W1, hW1⟩ : ∃ W1, W1 = (((w.alloc (.cells #[.int .i64 c.mi, .int .i64 c.mo, .int .i64 c.sh, .int .i64 c.mb, .int .i64 c.bo, .int .u64 (c.s : Nat), .int .i64 c.qg, .int .i64 c.qp, .int .i64 c.qw, .int .i64 c.qt, .int .i64 c.half, .int .i64 c.lim, .int .i64 c.bf, .int .i64 c.base, .int .i64 c.cap, .int .i64 c.jit] 26)).alloc (.cells #[.int .i64 u, .int .i64 v] 27)).alloc (.cells #[.int .i64 i, .int .i64 j] 27)) := ⟨_, rfl⟩
  have L0 : Hid (Below w.heap.size w W1) := Lib.hid (by rw [hW1]; exact Lows.alloc (Lows.alloc (Lows.alloc (Lows.self w) _) _) _)
  have OA : Hid (Blk W1 w.heap.size 26 [.int .i64 c.mi, .int .i64 c.mo, .int .i64 c.sh, .int .i64 c.mb, .int .i64 c.bo, .int .u64 (c.s : Nat), .int .i64 c.qg, .int .i64 c.qp, .int .i64 c.qw, .int .i64 c.qt, .int .i64 c.half, .int .i64 c.lim, .int .i64 c.bf, .int .i64 c.base, .int .i64 c.cap, .int .i64 c.jit]) := Lib.hid (by rw [hW1]; exact ((Blk.new w #[.int .i64 c.mi, .int .i64 c.mo, .int .i64 c.sh, .int .i64 c.mb, .int .i64 c.bo, .int .u64 (c.s : Nat), .int .i64 c.qg, .int .i64 c.qp, .int .i64 c.qw, .int .i64 c.qt, .int .i64 c.half, .int .i64 c.lim, .int .i64 c.bf, .int .i64 c.base, .int .i64 c.cap, .int .i64 c.jit] 26).alloc (.cells #[.int .i64 u, .int .i64 v] 27)).alloc (.cells #[.int .i64 i, .int .i64 j] 27))
  have OF : Hid (Blk W1 (w.heap.size + 1) 27 [.int .i64 u, .int .i64 v]) := Lib.hid (by rw [hW1]; exact (Blk.two w (.cells #[.int .i64 c.mi, .int .i64 c.mo, .int .i64 c.sh, .int .i64 c.mb, .int .i64 c.bo, .int .u64 (c.s : Nat), .int .i64 c.qg, .int .i64 c.qp, .int .i64 c.qw, .int .i64 c.qt, .int .i64 c.half, .int .i64 c.lim, .int .i64 c.bf, .int .i64 c.base, .int .i64 c.cap, .int .i64 c.jit] 26) #[.int .i64 u, .int .i64 v] 27).alloc (.cells #[.int .i64 i, .int .i64 j] 27))
  have OL : Hid (Blk W1 (w.heap.size + 2) 27 [.int .i64 i, .int .i64 j]) := Lib.hid (by rw [hW1]; exact Blk.three w (.cells #[.int .i64 c.mi, .int .i64 c.mo, .int .i64 c.sh, .int .i64 c.mb, .int .i64 c.bo, .int .u64 (c.s : Nat), .int .i64 c.qg, .int .i64 c.qp, .int .i64 c.qw, .int .i64 c.qt, .int .i64 c.half, .int .i64 c.lim, .int .i64 c.bf, .int .i64 c.base, .int .i64 c.cap, .int .i64 c.jit] 26) (.cells #[.int .i64 u, .int .i64 v] 27) #[.int .i64 i, .int .i64 j] 27)
  go_enter Try.func4, Try.ntmps4
  go_wp2_with fail
  rw [← hW1]
  clear hW1
  as_aux_lemma =>
    have hne : Nonempty (Cls (Lows W1)) := ⟨⟨_, Lows.self _⟩⟩
    have f0 : ∀ nq : Cls (Lows W1), nq.w.cell? ⟨(w.heap.size + 1), 0, none⟩ = some (.int .i64 u) := fun nq => Blk.in OF nq.h rfl
    have f1 : ∀ nq : Cls (Lows W1), nq.w.cell? ⟨(w.heap.size + 1), 1, none⟩ = some (.int .i64 v) := fun nq => Blk.in OF nq.h rfl
    refine Cls.region (Lows W1) (by as_aux_lemma => kernel_rfl) (by as_aux_lemma => kernel_rfl) (low_drewN (Below.refl _ _) 1) ?_
    (try dsimp only [List.append])
    as_aux_lemma =>
      repeat (go_big_quiet_step (first | fail))
      refine wpQuiet_nil ?_
      intro n9
      have h1 := n9.h
      generalize n9.w = w1 at h1 ⊢
      clear hne n9 f0 f1
      have OA1 := Lib.hid (OA.out.on h1)
      have OL1 := Lib.hid (OL.out.on h1)
      have L1 := Lib.hid (low_trans L0.out h1)
      clear OA OF OL L0 h1 M1 M2
      as_aux_lemma =>
        have s0 := OA1.out.cell (j := 0) rfl
        have s1 := OA1.out.cell (j := 1) rfl
        have s2 := OA1.out.cell (j := 2) rfl
        have s3 := OA1.out.cell (j := 3) rfl
        have s4 := OA1.out.cell (j := 4) rfl
        have s5 := OA1.out.cell (j := 5) rfl
        have s6 := OA1.out.cell (j := 6) rfl
        have s7 := OA1.out.cell (j := 7) rfl
        have s8 := OA1.out.cell (j := 8) rfl
        have s9 := OA1.out.cell (j := 9) rfl
        have s10 := OA1.out.cell (j := 10) rfl
        have s11 := OA1.out.cell (j := 11) rfl
        have s12 := OA1.out.cell (j := 12) rfl
        have s13 := OA1.out.cell (j := 13) rfl
        have s14 := OA1.out.cell (j := 14) rfl
        have s15 := OA1.out.cell (j := 15) rfl
        have r0 := OL1.out.cell (j := 0) rfl
        have r1 := OL1.out.cell (j := 1) rfl
        go_wp2_with fail
        refine (C4.out _).mono ?_
        rintro e w2 ⟨rfl, h2⟩
        have OA2 := Lib.hid (OA1.out.on h2)
        have OL2 := Lib.hid (OL1.out.on h2)
        have L2 := Lib.hid (low_trans L1.out h2)
        clear OA1 OL1 L1 h2 r0 r1 s0 s1 s2 s3 s4 s5 s6 s7 s8 s9 s10 s11 s12 s13 s14 s15
        go_wp2_with fail
        as_aux_lemma =>
          have hne : Nonempty (Cls (Lows w2)) := ⟨⟨_, Lows.self _⟩⟩
          have f0 : ∀ nq : Cls (Lows w2), nq.w.cell? ⟨w.heap.size, 0, none⟩ = some (.int .i64 c.mi) := fun nq => Blk.in OA2 nq.h rfl
          have f1 : ∀ nq : Cls (Lows w2), nq.w.cell? ⟨w.heap.size, 1, none⟩ = some (.int .i64 c.mo) := fun nq => Blk.in OA2 nq.h rfl
          have f2 : ∀ nq : Cls (Lows w2), nq.w.cell? ⟨w.heap.size, 2, none⟩ = some (.int .i64 c.sh) := fun nq => Blk.in OA2 nq.h rfl
          have f3 : ∀ nq : Cls (Lows w2), nq.w.cell? ⟨w.heap.size, 3, none⟩ = some (.int .i64 c.mb) := fun nq => Blk.in OA2 nq.h rfl
          have f4 : ∀ nq : Cls (Lows w2), nq.w.cell? ⟨w.heap.size, 4, none⟩ = some (.int .i64 c.bo) := fun nq => Blk.in OA2 nq.h rfl
          have f5 : ∀ nq : Cls (Lows w2), nq.w.cell? ⟨w.heap.size, 5, none⟩ = some (.int .u64 (c.s : Nat)) := fun nq => Blk.in OA2 nq.h rfl
          have f6 : ∀ nq : Cls (Lows w2), nq.w.cell? ⟨w.heap.size, 6, none⟩ = some (.int .i64 c.qg) := fun nq => Blk.in OA2 nq.h rfl
          have f7 : ∀ nq : Cls (Lows w2), nq.w.cell? ⟨w.heap.size, 7, none⟩ = some (.int .i64 c.qp) := fun nq => Blk.in OA2 nq.h rfl
          have f8 : ∀ nq : Cls (Lows w2), nq.w.cell? ⟨w.heap.size, 8, none⟩ = some (.int .i64 c.qw) := fun nq => Blk.in OA2 nq.h rfl
          have f9 : ∀ nq : Cls (Lows w2), nq.w.cell? ⟨w.heap.size, 9, none⟩ = some (.int .i64 c.qt) := fun nq => Blk.in OA2 nq.h rfl
          have f10 : ∀ nq : Cls (Lows w2), nq.w.cell? ⟨w.heap.size, 10, none⟩ = some (.int .i64 c.half) := fun nq => Blk.in OA2 nq.h rfl
          have f11 : ∀ nq : Cls (Lows w2), nq.w.cell? ⟨w.heap.size, 11, none⟩ = some (.int .i64 c.lim) := fun nq => Blk.in OA2 nq.h rfl
          have f12 : ∀ nq : Cls (Lows w2), nq.w.cell? ⟨w.heap.size, 12, none⟩ = some (.int .i64 c.bf) := fun nq => Blk.in OA2 nq.h rfl
          have f13 : ∀ nq : Cls (Lows w2), nq.w.cell? ⟨w.heap.size, 13, none⟩ = some (.int .i64 c.base) := fun nq => Blk.in OA2 nq.h rfl
          have f14 : ∀ nq : Cls (Lows w2), nq.w.cell? ⟨w.heap.size, 14, none⟩ = some (.int .i64 c.cap) := fun nq => Blk.in OA2 nq.h rfl
          have f15 : ∀ nq : Cls (Lows w2), nq.w.cell? ⟨w.heap.size, 15, none⟩ = some (.int .i64 c.jit) := fun nq => Blk.in OA2 nq.h rfl
          have f16 : ∀ nq : Cls (Lows w2), nq.w.cell? ⟨(w.heap.size + 2), 0, none⟩ = some (.int .i64 i) := fun nq => Blk.in OL2 nq.h rfl
          have f17 : ∀ nq : Cls (Lows w2), nq.w.cell? ⟨(w.heap.size + 2), 1, none⟩ = some (.int .i64 j) := fun nq => Blk.in OL2 nq.h rfl
          refine Cls.region (Lows w2) (by as_aux_lemma => kernel_rfl) (by as_aux_lemma => kernel_rfl) (low_drewN (Below.refl _ _) 1) ?_
          (try dsimp only [List.append])
          as_aux_lemma =>
            repeat (go_big_quiet_step (first | fail | (with_reducible exact Cls.call ((lows_same C6).out _ (Cls.h _))) | (with_reducible exact Cls.call ((lows_same C7).out _ (Cls.h _)))))
            refine wpQuiet_nil ?_
            intro n9
            have h3 := n9.h
            generalize n9.w = w3 at h3 ⊢
            clear hne n9 f0 f1 f2 f3 f4 f5 f6 f7 f8 f9 f10 f11 f12 f13 f14 f15 f16 f17
            have OA3 := Lib.hid (OA2.out.on h3)
            have OL3 := Lib.hid (OL2.out.on h3)
            have L3 := Lib.hid (low_trans L2.out h3)
            clear OA2 OL2 L2 h3 M3
            have LE1 := LE1.out
            have LE2 := LE2.out
            have LE3 := LE3.out
            have LE4 := LE4.out
            go_wp2_with fail
            as_aux_lemma =>
              have hne : Nonempty (Cls (Lows w3)) := ⟨⟨_, Lows.self _⟩⟩
              have f0 : ∀ nq : Cls (Lows w3), nq.w.cell? ⟨w.heap.size, 0, none⟩ = some (.int .i64 c.mi) := fun nq => Blk.in OA3 nq.h rfl
              have f1 : ∀ nq : Cls (Lows w3), nq.w.cell? ⟨w.heap.size, 1, none⟩ = some (.int .i64 c.mo) := fun nq => Blk.in OA3 nq.h rfl
              have f2 : ∀ nq : Cls (Lows w3), nq.w.cell? ⟨w.heap.size, 2, none⟩ = some (.int .i64 c.sh) := fun nq => Blk.in OA3 nq.h rfl
              have f3 : ∀ nq : Cls (Lows w3), nq.w.cell? ⟨w.heap.size, 3, none⟩ = some (.int .i64 c.mb) := fun nq => Blk.in OA3 nq.h rfl
              have f4 : ∀ nq : Cls (Lows w3), nq.w.cell? ⟨w.heap.size, 4, none⟩ = some (.int .i64 c.bo) := fun nq => Blk.in OA3 nq.h rfl
              have f5 : ∀ nq : Cls (Lows w3), nq.w.cell? ⟨w.heap.size, 5, none⟩ = some (.int .u64 (c.s : Nat)) := fun nq => Blk.in OA3 nq.h rfl
              have f6 : ∀ nq : Cls (Lows w3), nq.w.cell? ⟨w.heap.size, 6, none⟩ = some (.int .i64 c.qg) := fun nq => Blk.in OA3 nq.h rfl
              have f7 : ∀ nq : Cls (Lows w3), nq.w.cell? ⟨w.heap.size, 7, none⟩ = some (.int .i64 c.qp) := fun nq => Blk.in OA3 nq.h rfl
              have f8 : ∀ nq : Cls (Lows w3), nq.w.cell? ⟨w.heap.size, 8, none⟩ = some (.int .i64 c.qw) := fun nq => Blk.in OA3 nq.h rfl
              have f9 : ∀ nq : Cls (Lows w3), nq.w.cell? ⟨w.heap.size, 9, none⟩ = some (.int .i64 c.qt) := fun nq => Blk.in OA3 nq.h rfl
              have f10 : ∀ nq : Cls (Lows w3), nq.w.cell? ⟨w.heap.size, 10, none⟩ = some (.int .i64 c.half) := fun nq => Blk.in OA3 nq.h rfl
              have f11 : ∀ nq : Cls (Lows w3), nq.w.cell? ⟨w.heap.size, 11, none⟩ = some (.int .i64 c.lim) := fun nq => Blk.in OA3 nq.h rfl
              have f12 : ∀ nq : Cls (Lows w3), nq.w.cell? ⟨w.heap.size, 12, none⟩ = some (.int .i64 c.bf) := fun nq => Blk.in OA3 nq.h rfl
              have f13 : ∀ nq : Cls (Lows w3), nq.w.cell? ⟨w.heap.size, 13, none⟩ = some (.int .i64 c.base) := fun nq => Blk.in OA3 nq.h rfl
              have f14 : ∀ nq : Cls (Lows w3), nq.w.cell? ⟨w.heap.size, 14, none⟩ = some (.int .i64 c.cap) := fun nq => Blk.in OA3 nq.h rfl
              have f15 : ∀ nq : Cls (Lows w3), nq.w.cell? ⟨w.heap.size, 15, none⟩ = some (.int .i64 c.jit) := fun nq => Blk.in OA3 nq.h rfl
              have f16 : ∀ nq : Cls (Lows w3), nq.w.cell? ⟨(w.heap.size + 2), 0, none⟩ = some (.int .i64 i) := fun nq => Blk.in OL3 nq.h rfl
              have f17 : ∀ nq : Cls (Lows w3), nq.w.cell? ⟨(w.heap.size + 2), 1, none⟩ = some (.int .i64 j) := fun nq => Blk.in OL3 nq.h rfl
              refine Cls.region (Lows w3) (by as_aux_lemma => kernel_rfl) (by as_aux_lemma => kernel_rfl) (low_drewN (Below.refl _ _) 1) ?_
              (try dsimp only [List.append])
              as_aux_lemma =>
                iterate 12 (go_big_quiet_step (first | fail | (with_reducible exact Cls.call ((lows_call C1).out _ (Cls.h _))) | (with_reducible exact Cls.call ((lows_call C2).out _ (Cls.h _))) | (with_reducible exact Cls.call ((lows_call C3).out _ (Cls.h _))) | (with_reducible exact Cls.call ((lows_same C5).out _ (Cls.h _))) | (with_reducible exact Cls.call ((lows_call AW).out _ (Cls.h _)))))
                as_aux_lemma =>
                  iterate 12 (go_big_quiet_step (first | fail | (with_reducible exact Cls.call ((lows_call C1).out _ (Cls.h _))) | (with_reducible exact Cls.call ((lows_call C2).out _ (Cls.h _))) | (with_reducible exact Cls.call ((lows_call C3).out _ (Cls.h _))) | (with_reducible exact Cls.call ((lows_same C5).out _ (Cls.h _))) | (with_reducible exact Cls.call ((lows_call AW).out _ (Cls.h _)))))
                  as_aux_lemma =>
                    repeat (go_big_quiet_step (first | fail | (with_reducible exact Cls.call ((lows_call C1).out _ (Cls.h _))) | (with_reducible exact Cls.call ((lows_call C2).out _ (Cls.h _))) | (with_reducible exact Cls.call ((lows_call C3).out _ (Cls.h _))) | (with_reducible exact Cls.call ((lows_same C5).out _ (Cls.h _))) | (with_reducible exact Cls.call ((lows_call AW).out _ (Cls.h _)))))
                    refine wpQuiet_nil ?_
                    intro n9
                    have hk9 := n9.h
                    generalize n9.w = w9 at hk9 ⊢
                    clear hne n9 f0 f1 f2 f3 f4 f5 f6 f7 f8 f9 f10 f11 f12 f13 f14 f15 f16 f17
                    go_wp2
                    go_ret
                    exact ⟨rfl, low_trans L3.out hk9⟩
namespace backoffGrows
theorem contract (H : Type) (enc : TypeId × Value → H) (W : World) (base : Nat) (args : Array Value) (ds gs : List (DataW H)) (before : List MemPlace)
    (hval0 : ∀ (j : Nat) t v, Try.f4.params[j]? = some t → args[j]? = some v → Value.okWide Try.prog W .any base t v)
    (hW : DataW.Whole enc Try.prog Try.f4.params.toList Rows.backoffGrowsSpec.vars false W args.toList ds gs before) (hSh : W.ShapedOpen Try.prog) :
    Calls Try.prog 4 args W fun e W' => ∃ v, e = .returned v ∧ Rows.backoffGrowsSpec.post enc Try.prog Try.f4 false true false false W args v W' := by
  have hval : ∀ (j : Nat) t v, Try.f4.params[j]? = some t → args[j]? = some v → Value.okWide Try.prog W .any base t v := hval0
  have hW' := hW
  obtain ⟨p, q, hA0, hV, _, _, _⟩ := hW
  have hA : DataW.TrodAll enc Try.prog W 0 (fun _ => true) true Try.f4.params.toList args.toList ds p := hA0
  rw [Try.params4] at hA hval
  obtain ⟨v0, vs0, d0, ds0, p0, q0, hargs, rfl, rfl, h0, r0⟩ := trodAll_cons hA
  obtain ⟨v1, vs1, d1, ds1, p1, q1, rfl, rfl, rfl, h1, r1⟩ := trodAll_cons r0
  obtain ⟨v2, vs2, d2, ds2, p2, q2, rfl, rfl, rfl, h2, r2⟩ := trodAll_cons r1
  obtain ⟨rfl, rfl, rfl⟩ := trodAll_nil r2
  obtain rfl : args = #[v0, v1, v2] := by cases args; simp_all
  obtain ⟨rfl, rfl⟩ := trodVars_none hV
  obtain ⟨a0, z0, rfl⟩ := open_conf (hval 0 26 v0 rfl rfl) h0
  obtain ⟨i1, j1, y1, z1, rfl⟩ := open_two (hval 1 27 v1 rfl rfl) h1
  obtain ⟨i2, j2, y2, z2, rfl⟩ := open_two (hval 2 27 v2 rfl rfl) h2
  clear hA0 hval0
  refine (backoffGrows_walk W a0 z0 i1 j1 y1 z1 i2 j2 y2 z2).mono fun e W' ⟨he, hg⟩ => ?_
  subst he
  exact ⟨_, rfl, post_law laidOut (by kernel_rfl) (by kernel_rfl) Try.underlying4 rfl hW' rfl rfl rfl hg⟩
set_option maxRecDepth 100000 in
theorem lifted (os : Os) (started : os.Started) (H : Type) (enc : TypeId × Value → H) (F : Stop.Interp) :
    ReturnsInHanded {} Try.checked os 4 .any ((OpenSpec.ofChange Rows.backoffGrowsSpec).preRow enc Try.prog Try.f4 Rows.backoffGrowsRow.domain false Rows.backoffGrowsRow.laid) (((OpenSpec.ofChange Rows.backoffGrowsSpec).at F).post enc Try.prog Try.f4 false true false false) := by
  refine returnsInHanded_of_row (C := Try.checked) (s := OpenSpec.ofChange Rows.backoffGrowsSpec) own started (by kernel_rfl) Try.func4
    (witness_laid (enc := enc) (C := Try.checked) (s := OpenSpec.ofChange Rows.backoffGrowsSpec) (laid := Rows.backoffGrowsRow.laid) #[.agg #[.int .i64 0, .int .i64 0, .int .i64 0, .int .i64 0, .int .i64 0, .int .u64 0, .int .i64 0, .int .i64 0, .int .i64 0, .int .i64 0, .int .i64 0, .int .i64 0, .int .i64 0, .int .i64 0, .int .i64 0, .int .i64 0], .agg #[.int .i64 0, .int .i64 0], .agg #[.int .i64 0, .int .i64 0]] (World.shaped_of_ZipB (by kernel_rfl) (by kernel_rfl)) (by kernel_rfl)
      (OpenSpec.preRow_of_cond 8 (x := ([.agg [.lit (.int .i64 0), .lit (.int .i64 0), .lit (.int .i64 0), .lit (.int .i64 0), .lit (.int .i64 0), .lit (.int .u64 0), .agg [.lit (.int .i64 0), .lit (.int .i64 0), .lit (.int .i64 0), .lit (.int .i64 0)], .lit (.int .i64 0), .lit (.int .i64 0), .lit (.int .i64 0), .lit (.int .i64 0), .lit (.int .i64 0), .lit (.int .i64 0)], .agg [.lit (.int .i64 0), .lit (.int .i64 0)], .agg [.lit (.int .i64 0), .lit (.int .i64 0)]], [], [])) (by kernel_rfl) (by kernel_rfl) (fun k hk => by cases hk) (by kernel_rfl)
        (by rw [MakeChecks.laidMetH_plain _ _ _ (by kernel_rfl)]; exact laidMet_laidAll _ (by kernel_rfl) (by kernel_rfl)))) ?_
  intro W base args ds gs before hval hW _ hcond _ _ hsh _
  exact contract H enc W base args ds gs before hval hW hsh
theorem over : Rows.backoffGrowsRow.holds Try.pinned (OpenSpec.ofChange Rows.backoffGrowsSpec) :=
  OpenClaim.holds_of_cond 4 Try.f4 rfl rfl rfl rfl rfl rfl rfl ⟨rfl, rfl, rfl, rfl, rfl⟩ rfl rfl rfl rfl rfl (by kernel_rfl) Try.func4 (by kernel_rfl)
    (of_decide_eq_true (by kernel_rfl)) (by unfold Func.isWrapper; first | (rw [if_pos (by decide +kernel)]; kernel_rfl) | (rw [if_neg (by decide +kernel)]; exact ⟨rfl, rfl⟩))
    (fun os started H enc _ F => by rw [OpenClaim.pre_eq_preRow]; exact lifted os started H enc F)
/-- ████ THE STATEMENT ████ -/
theorem proved : Rows.BackoffGrowsSaid := over
end backoffGrows
end Go.Proofs.Ytihgbfpdnoaphaa
