/- Package backoff and the answers of its document, layer 23: the mathematics, the contracts. -/
import Derived.Test.YtnknhmfhejdbfaaSat
import Derived.Test.YtnknhmfhejdbfaaSatMath
import Derived.Test.YtnknhmfhejdbfaaBox
import Derived.Lib.MinMax
namespace Go.Proofs.Ytnknhmfhejdbfaa.Bk
set_option maxRecDepth 100000
open Go.ChangeShapes Go.WideShapes Go.ChangeAt Go.RowKit
open Sat
set_option linter.unusedVariables false
/-- What a manager is set to. -/
structure Cf where
  mi : Int
  mo : Int
  sh : Int
  mb : Int
  bo : Int
  s : Nat
  qg : Int
  qp : Int
  qw : Int
  qt : Int
  half : Int
  lim : Int
  bf : Int
  base : Int
  cap : Int
  jit : Int
def i64B (n : Int) : Prop := -9223372036854775808 ≤ n ∧ n ≤ 9223372036854775807
structure Cf.ok (c : Cf) : Prop where
  hmi : i64B c.mi
  hmo : i64B c.mo
  hsh : i64B c.sh
  hmb : i64B c.mb
  hbo : i64B c.bo
  hs : c.s < 18446744073709551616
  hqg : i64B c.qg
  hqp : i64B c.qp
  hqw : i64B c.qw
  hqt : i64B c.qt
  hhalf : i64B c.half
  hlim : i64B c.lim
  hbf : i64B c.bf
  hbase : i64B c.base
  hcap : i64B c.cap
  hjit : i64B c.jit
def delayR (c : Cf) (f : Int) : Int := if f < 1 then 0 else min (fit c.cap) (twice c.base (f - 1))
def jitR (c : Cf) (j : Int) : Int := if c.jit < 1 then 0 else if j.tmod c.jit < 0 then j.tmod c.jit + c.jit else j.tmod c.jit
def nextR (c : Cf) (f now j : Int) : Int := add (add now (delayR c f)) (jitR c j)
theorem twice_nn (a k : Int) : 0 ≤ twice a k := by unfold twice; exact (dbl_bd _ _).1
theorem delay_bd (c : Cf) (f : Int) : 0 ≤ delayR c f ∧ delayR c f ≤ fit c.cap := by
  have h1 := fit_bd c.cap
  have h2 := twice_nn c.base (f - 1)
  unfold delayR; split <;> omega
theorem delay_mono (c : Cf) {f g : Int} (h : f ≤ g) : delayR c f ≤ delayR c g := by
  by_cases h1 : f < 1
  · have e : delayR c f = 0 := by unfold delayR; rw [if_pos h1]
    rw [e]; exact (delay_bd c g).1
  · have h2 : twice c.base (f - 1) ≤ twice c.base (g - 1) := twice_grow (by omega)
    unfold delayR; rw [if_neg h1, if_neg (by omega)]
    omega
theorem tmod_bd {j m : Int} (hm : 1 ≤ m) : -m < j.tmod m ∧ j.tmod m < m := by
  refine ⟨?_, Int.tmod_lt_of_pos j (by omega)⟩
  have h := Int.tmod_lt_of_pos (-j) (show 0 < m by omega)
  rw [Int.neg_tmod] at h
  omega
theorem jit_bd (c : Cf) (j : Int) : 0 ≤ jitR c j ∧ jitR c j ≤ max c.jit 0 := by
  unfold jitR
  split
  · omega
  · have := tmod_bd (j := j) (m := c.jit) (by omega)
    split <;> omega
theorem add_mono2 {a b c : Int} (h : a ≤ b) : add c a ≤ add c b := by rw [add_comm' c a, add_comm' c b]; exact add_mono h
theorem add_bd (a b : Int) : 0 ≤ add a b ∧ add a b ≤ 1099511627776 := fit_bd _
theorem add_from {a b : Int} : fit a ≤ add a b := by
  have h1 := fit_bd a
  have h2 := fit_bd b
  have h3 : fit (fit a) ≤ fit (fit a + fit b) := fit_mono (by omega)
  rw [fit_fit] at h3; exact h3
theorem next_mono (c : Cf) {f g : Int} (h : f ≤ g) (now j : Int) : nextR c f now j ≤ nextR c g now j := by
  unfold nextR; exact add_mono (add_mono2 (delay_mono c h))
theorem next_from (c : Cf) (f now j : Int) : fit now ≤ nextR c f now j := by
  have h1 : fit now ≤ add now (delayR c f) := add_from
  have h2 : fit (add now (delayR c f)) ≤ nextR c f now j := add_from
  have h3 := add_bd now (delayR c f)
  rw [fit_of _ h3.1 h3.2] at h2
  omega
theorem add_fit2 (a b : Int) : add a (fit b) = add a b := by unfold add; rw [fit_fit]
theorem next_most (c : Cf) (f now j : Int) : nextR c f now j ≤ add (add now c.cap) (max c.jit 0) := by
  have h1 : add now (delayR c f) ≤ add now c.cap := by rw [← add_fit2 now c.cap]; exact add_mono2 (delay_bd c f).2
  exact Int.le_trans (add_mono h1) (add_mono2 (jit_bd c j).2)
set_option maxHeartbeats 4000000 in
theorem delay_any (c : Cf) (hc : c.ok) (f : Int) (hf : -9223372036854775808 ≤ f ∧ f ≤ 9223372036854775807) (w : World) :
    Calls Try.prog 33 #[.agg #[.int .i64 c.mi, .int .i64 c.mo, .int .i64 c.sh, .int .i64 c.mb, .int .i64 c.bo, .int .u64 (c.s : Nat), .int .i64 c.qg, .int .i64 c.qp, .int .i64 c.qw, .int .i64 c.qt, .int .i64 c.half, .int .i64 c.lim, .int .i64 c.bf, .int .i64 c.base, .int .i64 c.cap, .int .i64 c.jit], .int .i64 f] w fun e w' => e = .returned (.int .i64 (delayR c f)) ∧ Below w.heap.size w w' := by
  have L0 : Hid (Below w.heap.size w (w.alloc (.cells #[.int .i64 c.mi, .int .i64 c.mo, .int .i64 c.sh, .int .i64 c.mb, .int .i64 c.bo, .int .u64 (c.s : Nat), .int .i64 c.qg, .int .i64 c.qp, .int .i64 c.qw, .int .i64 c.qt, .int .i64 c.half, .int .i64 c.lim, .int .i64 c.bf, .int .i64 c.base, .int .i64 c.cap, .int .i64 c.jit] 26))) := Lib.hid (Lows.alloc (Lows.self w) _)
  have OB := Lib.hid (Blk.new w #[.int .i64 c.mi, .int .i64 c.mo, .int .i64 c.sh, .int .i64 c.mb, .int .i64 c.bo, .int .u64 (c.s : Nat), .int .i64 c.qg, .int .i64 c.qp, .int .i64 c.qw, .int .i64 c.qt, .int .i64 c.half, .int .i64 c.lim, .int .i64 c.bf, .int .i64 c.base, .int .i64 c.cap, .int .i64 c.jit] 26)
  by_cases h : f < 1
  · have E : Hid (delayR c f = 0) := Lib.hid (by unfold delayR; rw [if_pos h])
    go_enter Try.func33, Try.ntmps33
    go_wp2_with fail
    go_ret
    exact ⟨by rw [E.out]; rfl, L0.out⟩
  · obtain ⟨d, D⟩ : ∃ d : Int, min (fit c.cap) (twice c.base (f - 1)) = d := ⟨_, rfl⟩
    have E : Hid (delayR c f = d) := Lib.hid (by unfold delayR; rw [if_neg h, D])
    have C1 := Lib.hid (fun W => fit_any c.cap W)
    have C2 := Lib.hid (fun W => twice_any c.base (f - 1) W (by omega))
    generalize twice c.base (f - 1) = t at *
    generalize fit c.cap = p at *
    clear hc
    go_enter Try.func33, Try.ntmps33
    go_wp2_with fail
    have hne : Nonempty (Cls (Lows (w.alloc (.cells #[.int .i64 c.mi, .int .i64 c.mo, .int .i64 c.sh, .int .i64 c.mb, .int .i64 c.bo, .int .u64 (c.s : Nat), .int .i64 c.qg, .int .i64 c.qp, .int .i64 c.qw, .int .i64 c.qt, .int .i64 c.half, .int .i64 c.lim, .int .i64 c.bf, .int .i64 c.base, .int .i64 c.cap, .int .i64 c.jit] 26)))) := ⟨⟨_, Lows.self _⟩⟩
    have f0 : ∀ nq : Cls (Lows (w.alloc (.cells #[.int .i64 c.mi, .int .i64 c.mo, .int .i64 c.sh, .int .i64 c.mb, .int .i64 c.bo, .int .u64 (c.s : Nat), .int .i64 c.qg, .int .i64 c.qp, .int .i64 c.qw, .int .i64 c.qt, .int .i64 c.half, .int .i64 c.lim, .int .i64 c.bf, .int .i64 c.base, .int .i64 c.cap, .int .i64 c.jit] 26))), nq.w.cell? ⟨w.heap.size, 0, none⟩ = some (.int .i64 c.mi) := fun nq => Blk.in OB nq.h rfl
    have f1 : ∀ nq : Cls (Lows (w.alloc (.cells #[.int .i64 c.mi, .int .i64 c.mo, .int .i64 c.sh, .int .i64 c.mb, .int .i64 c.bo, .int .u64 (c.s : Nat), .int .i64 c.qg, .int .i64 c.qp, .int .i64 c.qw, .int .i64 c.qt, .int .i64 c.half, .int .i64 c.lim, .int .i64 c.bf, .int .i64 c.base, .int .i64 c.cap, .int .i64 c.jit] 26))), nq.w.cell? ⟨w.heap.size, 1, none⟩ = some (.int .i64 c.mo) := fun nq => Blk.in OB nq.h rfl
    have f2 : ∀ nq : Cls (Lows (w.alloc (.cells #[.int .i64 c.mi, .int .i64 c.mo, .int .i64 c.sh, .int .i64 c.mb, .int .i64 c.bo, .int .u64 (c.s : Nat), .int .i64 c.qg, .int .i64 c.qp, .int .i64 c.qw, .int .i64 c.qt, .int .i64 c.half, .int .i64 c.lim, .int .i64 c.bf, .int .i64 c.base, .int .i64 c.cap, .int .i64 c.jit] 26))), nq.w.cell? ⟨w.heap.size, 2, none⟩ = some (.int .i64 c.sh) := fun nq => Blk.in OB nq.h rfl
    have f3 : ∀ nq : Cls (Lows (w.alloc (.cells #[.int .i64 c.mi, .int .i64 c.mo, .int .i64 c.sh, .int .i64 c.mb, .int .i64 c.bo, .int .u64 (c.s : Nat), .int .i64 c.qg, .int .i64 c.qp, .int .i64 c.qw, .int .i64 c.qt, .int .i64 c.half, .int .i64 c.lim, .int .i64 c.bf, .int .i64 c.base, .int .i64 c.cap, .int .i64 c.jit] 26))), nq.w.cell? ⟨w.heap.size, 3, none⟩ = some (.int .i64 c.mb) := fun nq => Blk.in OB nq.h rfl
    have f4 : ∀ nq : Cls (Lows (w.alloc (.cells #[.int .i64 c.mi, .int .i64 c.mo, .int .i64 c.sh, .int .i64 c.mb, .int .i64 c.bo, .int .u64 (c.s : Nat), .int .i64 c.qg, .int .i64 c.qp, .int .i64 c.qw, .int .i64 c.qt, .int .i64 c.half, .int .i64 c.lim, .int .i64 c.bf, .int .i64 c.base, .int .i64 c.cap, .int .i64 c.jit] 26))), nq.w.cell? ⟨w.heap.size, 4, none⟩ = some (.int .i64 c.bo) := fun nq => Blk.in OB nq.h rfl
    have f5 : ∀ nq : Cls (Lows (w.alloc (.cells #[.int .i64 c.mi, .int .i64 c.mo, .int .i64 c.sh, .int .i64 c.mb, .int .i64 c.bo, .int .u64 (c.s : Nat), .int .i64 c.qg, .int .i64 c.qp, .int .i64 c.qw, .int .i64 c.qt, .int .i64 c.half, .int .i64 c.lim, .int .i64 c.bf, .int .i64 c.base, .int .i64 c.cap, .int .i64 c.jit] 26))), nq.w.cell? ⟨w.heap.size, 5, none⟩ = some (.int .u64 (c.s : Nat)) := fun nq => Blk.in OB nq.h rfl
    have f6 : ∀ nq : Cls (Lows (w.alloc (.cells #[.int .i64 c.mi, .int .i64 c.mo, .int .i64 c.sh, .int .i64 c.mb, .int .i64 c.bo, .int .u64 (c.s : Nat), .int .i64 c.qg, .int .i64 c.qp, .int .i64 c.qw, .int .i64 c.qt, .int .i64 c.half, .int .i64 c.lim, .int .i64 c.bf, .int .i64 c.base, .int .i64 c.cap, .int .i64 c.jit] 26))), nq.w.cell? ⟨w.heap.size, 6, none⟩ = some (.int .i64 c.qg) := fun nq => Blk.in OB nq.h rfl
    have f7 : ∀ nq : Cls (Lows (w.alloc (.cells #[.int .i64 c.mi, .int .i64 c.mo, .int .i64 c.sh, .int .i64 c.mb, .int .i64 c.bo, .int .u64 (c.s : Nat), .int .i64 c.qg, .int .i64 c.qp, .int .i64 c.qw, .int .i64 c.qt, .int .i64 c.half, .int .i64 c.lim, .int .i64 c.bf, .int .i64 c.base, .int .i64 c.cap, .int .i64 c.jit] 26))), nq.w.cell? ⟨w.heap.size, 7, none⟩ = some (.int .i64 c.qp) := fun nq => Blk.in OB nq.h rfl
    have f8 : ∀ nq : Cls (Lows (w.alloc (.cells #[.int .i64 c.mi, .int .i64 c.mo, .int .i64 c.sh, .int .i64 c.mb, .int .i64 c.bo, .int .u64 (c.s : Nat), .int .i64 c.qg, .int .i64 c.qp, .int .i64 c.qw, .int .i64 c.qt, .int .i64 c.half, .int .i64 c.lim, .int .i64 c.bf, .int .i64 c.base, .int .i64 c.cap, .int .i64 c.jit] 26))), nq.w.cell? ⟨w.heap.size, 8, none⟩ = some (.int .i64 c.qw) := fun nq => Blk.in OB nq.h rfl
    have f9 : ∀ nq : Cls (Lows (w.alloc (.cells #[.int .i64 c.mi, .int .i64 c.mo, .int .i64 c.sh, .int .i64 c.mb, .int .i64 c.bo, .int .u64 (c.s : Nat), .int .i64 c.qg, .int .i64 c.qp, .int .i64 c.qw, .int .i64 c.qt, .int .i64 c.half, .int .i64 c.lim, .int .i64 c.bf, .int .i64 c.base, .int .i64 c.cap, .int .i64 c.jit] 26))), nq.w.cell? ⟨w.heap.size, 9, none⟩ = some (.int .i64 c.qt) := fun nq => Blk.in OB nq.h rfl
    have f10 : ∀ nq : Cls (Lows (w.alloc (.cells #[.int .i64 c.mi, .int .i64 c.mo, .int .i64 c.sh, .int .i64 c.mb, .int .i64 c.bo, .int .u64 (c.s : Nat), .int .i64 c.qg, .int .i64 c.qp, .int .i64 c.qw, .int .i64 c.qt, .int .i64 c.half, .int .i64 c.lim, .int .i64 c.bf, .int .i64 c.base, .int .i64 c.cap, .int .i64 c.jit] 26))), nq.w.cell? ⟨w.heap.size, 10, none⟩ = some (.int .i64 c.half) := fun nq => Blk.in OB nq.h rfl
    have f11 : ∀ nq : Cls (Lows (w.alloc (.cells #[.int .i64 c.mi, .int .i64 c.mo, .int .i64 c.sh, .int .i64 c.mb, .int .i64 c.bo, .int .u64 (c.s : Nat), .int .i64 c.qg, .int .i64 c.qp, .int .i64 c.qw, .int .i64 c.qt, .int .i64 c.half, .int .i64 c.lim, .int .i64 c.bf, .int .i64 c.base, .int .i64 c.cap, .int .i64 c.jit] 26))), nq.w.cell? ⟨w.heap.size, 11, none⟩ = some (.int .i64 c.lim) := fun nq => Blk.in OB nq.h rfl
    have f12 : ∀ nq : Cls (Lows (w.alloc (.cells #[.int .i64 c.mi, .int .i64 c.mo, .int .i64 c.sh, .int .i64 c.mb, .int .i64 c.bo, .int .u64 (c.s : Nat), .int .i64 c.qg, .int .i64 c.qp, .int .i64 c.qw, .int .i64 c.qt, .int .i64 c.half, .int .i64 c.lim, .int .i64 c.bf, .int .i64 c.base, .int .i64 c.cap, .int .i64 c.jit] 26))), nq.w.cell? ⟨w.heap.size, 12, none⟩ = some (.int .i64 c.bf) := fun nq => Blk.in OB nq.h rfl
    have f13 : ∀ nq : Cls (Lows (w.alloc (.cells #[.int .i64 c.mi, .int .i64 c.mo, .int .i64 c.sh, .int .i64 c.mb, .int .i64 c.bo, .int .u64 (c.s : Nat), .int .i64 c.qg, .int .i64 c.qp, .int .i64 c.qw, .int .i64 c.qt, .int .i64 c.half, .int .i64 c.lim, .int .i64 c.bf, .int .i64 c.base, .int .i64 c.cap, .int .i64 c.jit] 26))), nq.w.cell? ⟨w.heap.size, 13, none⟩ = some (.int .i64 c.base) := fun nq => Blk.in OB nq.h rfl
    have f14 : ∀ nq : Cls (Lows (w.alloc (.cells #[.int .i64 c.mi, .int .i64 c.mo, .int .i64 c.sh, .int .i64 c.mb, .int .i64 c.bo, .int .u64 (c.s : Nat), .int .i64 c.qg, .int .i64 c.qp, .int .i64 c.qw, .int .i64 c.qt, .int .i64 c.half, .int .i64 c.lim, .int .i64 c.bf, .int .i64 c.base, .int .i64 c.cap, .int .i64 c.jit] 26))), nq.w.cell? ⟨w.heap.size, 14, none⟩ = some (.int .i64 c.cap) := fun nq => Blk.in OB nq.h rfl
    have f15 : ∀ nq : Cls (Lows (w.alloc (.cells #[.int .i64 c.mi, .int .i64 c.mo, .int .i64 c.sh, .int .i64 c.mb, .int .i64 c.bo, .int .u64 (c.s : Nat), .int .i64 c.qg, .int .i64 c.qp, .int .i64 c.qw, .int .i64 c.qt, .int .i64 c.half, .int .i64 c.lim, .int .i64 c.bf, .int .i64 c.base, .int .i64 c.cap, .int .i64 c.jit] 26))), nq.w.cell? ⟨w.heap.size, 15, none⟩ = some (.int .i64 c.jit) := fun nq => Blk.in OB nq.h rfl
    refine Cls.region (Lows (w.alloc (.cells #[.int .i64 c.mi, .int .i64 c.mo, .int .i64 c.sh, .int .i64 c.mb, .int .i64 c.bo, .int .u64 (c.s : Nat), .int .i64 c.qg, .int .i64 c.qp, .int .i64 c.qw, .int .i64 c.qt, .int .i64 c.half, .int .i64 c.lim, .int .i64 c.bf, .int .i64 c.base, .int .i64 c.cap, .int .i64 c.jit] 26))) (by kernel_rfl) (by kernel_rfl) (low_drewN (Below.refl _ _) 1) ?_
    (try dsimp only [List.append])
    repeat (go_big_quiet_step (first | fail | (with_reducible exact Cls.call ((lows_same C1).out _ (Cls.h _))) | (with_reducible exact Cls.call ((lows_same C2).out _ (Cls.h _)))))
    refine wpQuiet_nil ?_
    intro n9
    have hk9 := n9.h
    generalize n9.w = w9 at hk9 ⊢
    clear hne n9 f0 f1 f2 f3 f4 f5 f6 f7 f8 f9 f10 f11 f12 f13 f14 f15
    go_wp2
    go_ret
    exact ⟨by rw [E.out]; rfl, low_trans L0.out hk9⟩
set_option maxHeartbeats 4000000 in
theorem rdelay_any (c : Cf) (hc : c.ok) (f : Int) (hf : -9223372036854775808 ≤ f ∧ f ≤ 9223372036854775807) (w : World) :
    Calls Try.prog 20 #[.agg #[.int .i64 c.mi, .int .i64 c.mo, .int .i64 c.sh, .int .i64 c.mb, .int .i64 c.bo, .int .u64 (c.s : Nat), .int .i64 c.qg, .int .i64 c.qp, .int .i64 c.qw, .int .i64 c.qt, .int .i64 c.half, .int .i64 c.lim, .int .i64 c.bf, .int .i64 c.base, .int .i64 c.cap, .int .i64 c.jit], .int .i64 f] w fun e w' => e = .returned (.int .i64 (delayR c f)) ∧ Below w.heap.size w w' := by
  have L0 : Hid (Below w.heap.size w (w.alloc (.cells #[.int .i64 c.mi, .int .i64 c.mo, .int .i64 c.sh, .int .i64 c.mb, .int .i64 c.bo, .int .u64 (c.s : Nat), .int .i64 c.qg, .int .i64 c.qp, .int .i64 c.qw, .int .i64 c.qt, .int .i64 c.half, .int .i64 c.lim, .int .i64 c.bf, .int .i64 c.base, .int .i64 c.cap, .int .i64 c.jit] 26))) := Lib.hid (Lows.alloc (Lows.self w) _)
  have OB := Lib.hid (Blk.new w #[.int .i64 c.mi, .int .i64 c.mo, .int .i64 c.sh, .int .i64 c.mb, .int .i64 c.bo, .int .u64 (c.s : Nat), .int .i64 c.qg, .int .i64 c.qp, .int .i64 c.qw, .int .i64 c.qt, .int .i64 c.half, .int .i64 c.lim, .int .i64 c.bf, .int .i64 c.base, .int .i64 c.cap, .int .i64 c.jit] 26)
  by_cases h : f < 1
  · have E : Hid (delayR c f = 0) := Lib.hid (by unfold delayR; rw [if_pos h])
    go_enter Try.func20, Try.ntmps20
    go_wp2_with fail
    go_ret
    exact ⟨by rw [E.out]; rfl, L0.out⟩
  · have E : Hid (delayR c f = min (fit c.cap) (twice c.base (f - 1))) := Lib.hid (by unfold delayR; rw [if_neg h])
    have C1 := Lib.hid (fun W => rfit_any c.cap W)
    have C2 := Lib.hid (fun W => rtwice_any c.base (f - 1) W (by omega))
    generalize twice c.base (f - 1) = t at *
    generalize fit c.cap = p at *
    clear hc OB
    by_cases h2 : p < t
    · go_enter Try.func20, Try.ntmps20
      go_wp2_with fail
      refine (C2.out _).mono ?_; rintro e w1 ⟨rfl, rfl⟩
      go_wp2_with fail
      refine (C1.out _).mono ?_; rintro e w1 ⟨rfl, rfl⟩
      go_wp2_with fail
      refine (C1.out _).mono ?_; rintro e w1 ⟨rfl, rfl⟩
      go_wp2_with fail
      go_ret
      exact ⟨ret_i (by rw [E.out]; omega), L0.out⟩
    · go_enter Try.func20, Try.ntmps20
      go_wp2_with fail
      refine (C2.out _).mono ?_; rintro e w1 ⟨rfl, rfl⟩
      go_wp2_with fail
      refine (C1.out _).mono ?_; rintro e w1 ⟨rfl, rfl⟩
      go_wp2_with fail
      go_ret
      exact ⟨ret_i (by rw [E.out]; omega), L0.out⟩
set_option maxHeartbeats 4000000 in
theorem jitter_any (c : Cf) (hc : c.ok) (j : Int) (hj : -9223372036854775808 ≤ j ∧ j ≤ 9223372036854775807) (w : World) :
    Calls Try.prog 34 #[.agg #[.int .i64 c.mi, .int .i64 c.mo, .int .i64 c.sh, .int .i64 c.mb, .int .i64 c.bo, .int .u64 (c.s : Nat), .int .i64 c.qg, .int .i64 c.qp, .int .i64 c.qw, .int .i64 c.qt, .int .i64 c.half, .int .i64 c.lim, .int .i64 c.bf, .int .i64 c.base, .int .i64 c.cap, .int .i64 c.jit], .int .i64 j] w fun e w' => e = .returned (.int .i64 (jitR c j)) ∧ Below w.heap.size w w' := by
  have L0 : Hid (Below w.heap.size w (w.alloc (.cells #[.int .i64 c.mi, .int .i64 c.mo, .int .i64 c.sh, .int .i64 c.mb, .int .i64 c.bo, .int .u64 (c.s : Nat), .int .i64 c.qg, .int .i64 c.qp, .int .i64 c.qw, .int .i64 c.qt, .int .i64 c.half, .int .i64 c.lim, .int .i64 c.bf, .int .i64 c.base, .int .i64 c.cap, .int .i64 c.jit] 26))) := Lib.hid (Lows.alloc (Lows.self w) _)
  have OB := Lib.hid (Blk.new w #[.int .i64 c.mi, .int .i64 c.mo, .int .i64 c.sh, .int .i64 c.mb, .int .i64 c.bo, .int .u64 (c.s : Nat), .int .i64 c.qg, .int .i64 c.qp, .int .i64 c.qw, .int .i64 c.qt, .int .i64 c.half, .int .i64 c.lim, .int .i64 c.bf, .int .i64 c.base, .int .i64 c.cap, .int .i64 c.jit] 26)
  have hm := hc.hjit
  unfold i64B at hm
  clear hc OB
  by_cases h : c.jit < 1
  · have E : Hid (jitR c j = 0) := Lib.hid (by unfold jitR; rw [if_pos h])
    go_enter Try.func34, Try.ntmps34
    go_wp2_with fail
    go_ret
    exact ⟨by rw [E.out]; rfl, L0.out⟩
  · have hb := tmod_bd (j := j) (m := c.jit) (by omega)
    have E : Hid (jitR c j = if j.tmod c.jit < 0 then j.tmod c.jit + c.jit else j.tmod c.jit) := Lib.hid (by unfold jitR; rw [if_neg h])
    by_cases h2 : j.tmod c.jit < 0
    · go_enter Try.func34, Try.ntmps34
      go_wp2_with fail
      go_ret
      exact ⟨ret_i (by rw [E.out, if_pos (by omega)]), L0.out⟩
    · go_enter Try.func34, Try.ntmps34
      go_wp2_with fail
      go_ret
      exact ⟨ret_i (by rw [E.out, if_neg (by omega)]), L0.out⟩
set_option maxHeartbeats 4000000 in
theorem rjitter_any (c : Cf) (hc : c.ok) (j : Int) (hj : -9223372036854775808 ≤ j ∧ j ≤ 9223372036854775807) (w : World) :
    Calls Try.prog 21 #[.agg #[.int .i64 c.mi, .int .i64 c.mo, .int .i64 c.sh, .int .i64 c.mb, .int .i64 c.bo, .int .u64 (c.s : Nat), .int .i64 c.qg, .int .i64 c.qp, .int .i64 c.qw, .int .i64 c.qt, .int .i64 c.half, .int .i64 c.lim, .int .i64 c.bf, .int .i64 c.base, .int .i64 c.cap, .int .i64 c.jit], .int .i64 j] w fun e w' => e = .returned (.int .i64 (jitR c j)) ∧ Below w.heap.size w w' := by
  have L0 : Hid (Below w.heap.size w (w.alloc (.cells #[.int .i64 c.mi, .int .i64 c.mo, .int .i64 c.sh, .int .i64 c.mb, .int .i64 c.bo, .int .u64 (c.s : Nat), .int .i64 c.qg, .int .i64 c.qp, .int .i64 c.qw, .int .i64 c.qt, .int .i64 c.half, .int .i64 c.lim, .int .i64 c.bf, .int .i64 c.base, .int .i64 c.cap, .int .i64 c.jit] 26))) := Lib.hid (Lows.alloc (Lows.self w) _)
  have OB := Lib.hid (Blk.new w #[.int .i64 c.mi, .int .i64 c.mo, .int .i64 c.sh, .int .i64 c.mb, .int .i64 c.bo, .int .u64 (c.s : Nat), .int .i64 c.qg, .int .i64 c.qp, .int .i64 c.qw, .int .i64 c.qt, .int .i64 c.half, .int .i64 c.lim, .int .i64 c.bf, .int .i64 c.base, .int .i64 c.cap, .int .i64 c.jit] 26)
  have hm := hc.hjit
  unfold i64B at hm
  clear hc OB
  by_cases h : c.jit < 1
  · have E : Hid (jitR c j = 0) := Lib.hid (by unfold jitR; rw [if_pos h])
    go_enter Try.func21, Try.ntmps21
    go_wp2_with fail
    go_ret
    exact ⟨by rw [E.out]; rfl, L0.out⟩
  · have hb := tmod_bd (j := j) (m := c.jit) (by omega)
    have E : Hid (jitR c j = if j.tmod c.jit < 0 then j.tmod c.jit + c.jit else j.tmod c.jit) := Lib.hid (by unfold jitR; rw [if_neg h])
    by_cases h2 : j.tmod c.jit < 0
    · go_enter Try.func21, Try.ntmps21
      go_wp2_with fail
      go_ret
      exact ⟨ret_i (by rw [E.out, if_pos (by omega)]), L0.out⟩
    · go_enter Try.func21, Try.ntmps21
      go_wp2_with fail
      go_ret
      exact ⟨ret_i (by rw [E.out, if_neg (by omega)]), L0.out⟩
set_option maxHeartbeats 4000000 in
theorem next_any (c : Cf) (hc : c.ok) (f now j : Int) (hf : -9223372036854775808 ≤ f ∧ f ≤ 9223372036854775807) (hj : -9223372036854775808 ≤ j ∧ j ≤ 9223372036854775807) (w : World) :
    Calls Try.prog 27 #[.agg #[.int .i64 c.mi, .int .i64 c.mo, .int .i64 c.sh, .int .i64 c.mb, .int .i64 c.bo, .int .u64 (c.s : Nat), .int .i64 c.qg, .int .i64 c.qp, .int .i64 c.qw, .int .i64 c.qt, .int .i64 c.half, .int .i64 c.lim, .int .i64 c.bf, .int .i64 c.base, .int .i64 c.cap, .int .i64 c.jit], .int .i64 f, .int .i64 now, .int .i64 j] w fun e w' => e = .returned (.int .i64 (nextR c f now j)) ∧ Below w.heap.size w w' := by
  have L0 : Hid (Below w.heap.size w (w.alloc (.cells #[.int .i64 c.mi, .int .i64 c.mo, .int .i64 c.sh, .int .i64 c.mb, .int .i64 c.bo, .int .u64 (c.s : Nat), .int .i64 c.qg, .int .i64 c.qp, .int .i64 c.qw, .int .i64 c.qt, .int .i64 c.half, .int .i64 c.lim, .int .i64 c.bf, .int .i64 c.base, .int .i64 c.cap, .int .i64 c.jit] 26))) := Lib.hid (Lows.alloc (Lows.self w) _)
  have OB := Lib.hid (Blk.new w #[.int .i64 c.mi, .int .i64 c.mo, .int .i64 c.sh, .int .i64 c.mb, .int .i64 c.bo, .int .u64 (c.s : Nat), .int .i64 c.qg, .int .i64 c.qp, .int .i64 c.qw, .int .i64 c.qt, .int .i64 c.half, .int .i64 c.lim, .int .i64 c.bf, .int .i64 c.base, .int .i64 c.cap, .int .i64 c.jit] 26)
  have E : Hid (nextR c f now j = add (add now (delayR c f)) (jitR c j)) := Lib.hid rfl
  have C1 := Lib.hid (fun W => delay_any c hc f hf W)
  have C2 := Lib.hid (fun W => jitter_any c hc j hj W)
  have C3 := Lib.hid (fun W => add_any now (delayR c f) W)
  have C4 := Lib.hid (fun W => add_any (add now (delayR c f)) (jitR c j) W)
  generalize add (add now (delayR c f)) (jitR c j) = n at *
  generalize add now (delayR c f) = a at *
  generalize delayR c f = d at *
  generalize jitR c j = m at *
  clear hc hf hj
  go_enter Try.func27, Try.ntmps27
  go_wp2_with fail
  have hne : Nonempty (Cls (Lows (w.alloc (.cells #[.int .i64 c.mi, .int .i64 c.mo, .int .i64 c.sh, .int .i64 c.mb, .int .i64 c.bo, .int .u64 (c.s : Nat), .int .i64 c.qg, .int .i64 c.qp, .int .i64 c.qw, .int .i64 c.qt, .int .i64 c.half, .int .i64 c.lim, .int .i64 c.bf, .int .i64 c.base, .int .i64 c.cap, .int .i64 c.jit] 26)))) := ⟨⟨_, Lows.self _⟩⟩
  have f0 : ∀ nq : Cls (Lows (w.alloc (.cells #[.int .i64 c.mi, .int .i64 c.mo, .int .i64 c.sh, .int .i64 c.mb, .int .i64 c.bo, .int .u64 (c.s : Nat), .int .i64 c.qg, .int .i64 c.qp, .int .i64 c.qw, .int .i64 c.qt, .int .i64 c.half, .int .i64 c.lim, .int .i64 c.bf, .int .i64 c.base, .int .i64 c.cap, .int .i64 c.jit] 26))), nq.w.cell? ⟨w.heap.size, 0, none⟩ = some (.int .i64 c.mi) := fun nq => Blk.in OB nq.h rfl
  have f1 : ∀ nq : Cls (Lows (w.alloc (.cells #[.int .i64 c.mi, .int .i64 c.mo, .int .i64 c.sh, .int .i64 c.mb, .int .i64 c.bo, .int .u64 (c.s : Nat), .int .i64 c.qg, .int .i64 c.qp, .int .i64 c.qw, .int .i64 c.qt, .int .i64 c.half, .int .i64 c.lim, .int .i64 c.bf, .int .i64 c.base, .int .i64 c.cap, .int .i64 c.jit] 26))), nq.w.cell? ⟨w.heap.size, 1, none⟩ = some (.int .i64 c.mo) := fun nq => Blk.in OB nq.h rfl
  have f2 : ∀ nq : Cls (Lows (w.alloc (.cells #[.int .i64 c.mi, .int .i64 c.mo, .int .i64 c.sh, .int .i64 c.mb, .int .i64 c.bo, .int .u64 (c.s : Nat), .int .i64 c.qg, .int .i64 c.qp, .int .i64 c.qw, .int .i64 c.qt, .int .i64 c.half, .int .i64 c.lim, .int .i64 c.bf, .int .i64 c.base, .int .i64 c.cap, .int .i64 c.jit] 26))), nq.w.cell? ⟨w.heap.size, 2, none⟩ = some (.int .i64 c.sh) := fun nq => Blk.in OB nq.h rfl
  have f3 : ∀ nq : Cls (Lows (w.alloc (.cells #[.int .i64 c.mi, .int .i64 c.mo, .int .i64 c.sh, .int .i64 c.mb, .int .i64 c.bo, .int .u64 (c.s : Nat), .int .i64 c.qg, .int .i64 c.qp, .int .i64 c.qw, .int .i64 c.qt, .int .i64 c.half, .int .i64 c.lim, .int .i64 c.bf, .int .i64 c.base, .int .i64 c.cap, .int .i64 c.jit] 26))), nq.w.cell? ⟨w.heap.size, 3, none⟩ = some (.int .i64 c.mb) := fun nq => Blk.in OB nq.h rfl
  have f4 : ∀ nq : Cls (Lows (w.alloc (.cells #[.int .i64 c.mi, .int .i64 c.mo, .int .i64 c.sh, .int .i64 c.mb, .int .i64 c.bo, .int .u64 (c.s : Nat), .int .i64 c.qg, .int .i64 c.qp, .int .i64 c.qw, .int .i64 c.qt, .int .i64 c.half, .int .i64 c.lim, .int .i64 c.bf, .int .i64 c.base, .int .i64 c.cap, .int .i64 c.jit] 26))), nq.w.cell? ⟨w.heap.size, 4, none⟩ = some (.int .i64 c.bo) := fun nq => Blk.in OB nq.h rfl
  have f5 : ∀ nq : Cls (Lows (w.alloc (.cells #[.int .i64 c.mi, .int .i64 c.mo, .int .i64 c.sh, .int .i64 c.mb, .int .i64 c.bo, .int .u64 (c.s : Nat), .int .i64 c.qg, .int .i64 c.qp, .int .i64 c.qw, .int .i64 c.qt, .int .i64 c.half, .int .i64 c.lim, .int .i64 c.bf, .int .i64 c.base, .int .i64 c.cap, .int .i64 c.jit] 26))), nq.w.cell? ⟨w.heap.size, 5, none⟩ = some (.int .u64 (c.s : Nat)) := fun nq => Blk.in OB nq.h rfl
  have f6 : ∀ nq : Cls (Lows (w.alloc (.cells #[.int .i64 c.mi, .int .i64 c.mo, .int .i64 c.sh, .int .i64 c.mb, .int .i64 c.bo, .int .u64 (c.s : Nat), .int .i64 c.qg, .int .i64 c.qp, .int .i64 c.qw, .int .i64 c.qt, .int .i64 c.half, .int .i64 c.lim, .int .i64 c.bf, .int .i64 c.base, .int .i64 c.cap, .int .i64 c.jit] 26))), nq.w.cell? ⟨w.heap.size, 6, none⟩ = some (.int .i64 c.qg) := fun nq => Blk.in OB nq.h rfl
  have f7 : ∀ nq : Cls (Lows (w.alloc (.cells #[.int .i64 c.mi, .int .i64 c.mo, .int .i64 c.sh, .int .i64 c.mb, .int .i64 c.bo, .int .u64 (c.s : Nat), .int .i64 c.qg, .int .i64 c.qp, .int .i64 c.qw, .int .i64 c.qt, .int .i64 c.half, .int .i64 c.lim, .int .i64 c.bf, .int .i64 c.base, .int .i64 c.cap, .int .i64 c.jit] 26))), nq.w.cell? ⟨w.heap.size, 7, none⟩ = some (.int .i64 c.qp) := fun nq => Blk.in OB nq.h rfl
  have f8 : ∀ nq : Cls (Lows (w.alloc (.cells #[.int .i64 c.mi, .int .i64 c.mo, .int .i64 c.sh, .int .i64 c.mb, .int .i64 c.bo, .int .u64 (c.s : Nat), .int .i64 c.qg, .int .i64 c.qp, .int .i64 c.qw, .int .i64 c.qt, .int .i64 c.half, .int .i64 c.lim, .int .i64 c.bf, .int .i64 c.base, .int .i64 c.cap, .int .i64 c.jit] 26))), nq.w.cell? ⟨w.heap.size, 8, none⟩ = some (.int .i64 c.qw) := fun nq => Blk.in OB nq.h rfl
  have f9 : ∀ nq : Cls (Lows (w.alloc (.cells #[.int .i64 c.mi, .int .i64 c.mo, .int .i64 c.sh, .int .i64 c.mb, .int .i64 c.bo, .int .u64 (c.s : Nat), .int .i64 c.qg, .int .i64 c.qp, .int .i64 c.qw, .int .i64 c.qt, .int .i64 c.half, .int .i64 c.lim, .int .i64 c.bf, .int .i64 c.base, .int .i64 c.cap, .int .i64 c.jit] 26))), nq.w.cell? ⟨w.heap.size, 9, none⟩ = some (.int .i64 c.qt) := fun nq => Blk.in OB nq.h rfl
  have f10 : ∀ nq : Cls (Lows (w.alloc (.cells #[.int .i64 c.mi, .int .i64 c.mo, .int .i64 c.sh, .int .i64 c.mb, .int .i64 c.bo, .int .u64 (c.s : Nat), .int .i64 c.qg, .int .i64 c.qp, .int .i64 c.qw, .int .i64 c.qt, .int .i64 c.half, .int .i64 c.lim, .int .i64 c.bf, .int .i64 c.base, .int .i64 c.cap, .int .i64 c.jit] 26))), nq.w.cell? ⟨w.heap.size, 10, none⟩ = some (.int .i64 c.half) := fun nq => Blk.in OB nq.h rfl
  have f11 : ∀ nq : Cls (Lows (w.alloc (.cells #[.int .i64 c.mi, .int .i64 c.mo, .int .i64 c.sh, .int .i64 c.mb, .int .i64 c.bo, .int .u64 (c.s : Nat), .int .i64 c.qg, .int .i64 c.qp, .int .i64 c.qw, .int .i64 c.qt, .int .i64 c.half, .int .i64 c.lim, .int .i64 c.bf, .int .i64 c.base, .int .i64 c.cap, .int .i64 c.jit] 26))), nq.w.cell? ⟨w.heap.size, 11, none⟩ = some (.int .i64 c.lim) := fun nq => Blk.in OB nq.h rfl
  have f12 : ∀ nq : Cls (Lows (w.alloc (.cells #[.int .i64 c.mi, .int .i64 c.mo, .int .i64 c.sh, .int .i64 c.mb, .int .i64 c.bo, .int .u64 (c.s : Nat), .int .i64 c.qg, .int .i64 c.qp, .int .i64 c.qw, .int .i64 c.qt, .int .i64 c.half, .int .i64 c.lim, .int .i64 c.bf, .int .i64 c.base, .int .i64 c.cap, .int .i64 c.jit] 26))), nq.w.cell? ⟨w.heap.size, 12, none⟩ = some (.int .i64 c.bf) := fun nq => Blk.in OB nq.h rfl
  have f13 : ∀ nq : Cls (Lows (w.alloc (.cells #[.int .i64 c.mi, .int .i64 c.mo, .int .i64 c.sh, .int .i64 c.mb, .int .i64 c.bo, .int .u64 (c.s : Nat), .int .i64 c.qg, .int .i64 c.qp, .int .i64 c.qw, .int .i64 c.qt, .int .i64 c.half, .int .i64 c.lim, .int .i64 c.bf, .int .i64 c.base, .int .i64 c.cap, .int .i64 c.jit] 26))), nq.w.cell? ⟨w.heap.size, 13, none⟩ = some (.int .i64 c.base) := fun nq => Blk.in OB nq.h rfl
  have f14 : ∀ nq : Cls (Lows (w.alloc (.cells #[.int .i64 c.mi, .int .i64 c.mo, .int .i64 c.sh, .int .i64 c.mb, .int .i64 c.bo, .int .u64 (c.s : Nat), .int .i64 c.qg, .int .i64 c.qp, .int .i64 c.qw, .int .i64 c.qt, .int .i64 c.half, .int .i64 c.lim, .int .i64 c.bf, .int .i64 c.base, .int .i64 c.cap, .int .i64 c.jit] 26))), nq.w.cell? ⟨w.heap.size, 14, none⟩ = some (.int .i64 c.cap) := fun nq => Blk.in OB nq.h rfl
  have f15 : ∀ nq : Cls (Lows (w.alloc (.cells #[.int .i64 c.mi, .int .i64 c.mo, .int .i64 c.sh, .int .i64 c.mb, .int .i64 c.bo, .int .u64 (c.s : Nat), .int .i64 c.qg, .int .i64 c.qp, .int .i64 c.qw, .int .i64 c.qt, .int .i64 c.half, .int .i64 c.lim, .int .i64 c.bf, .int .i64 c.base, .int .i64 c.cap, .int .i64 c.jit] 26))), nq.w.cell? ⟨w.heap.size, 15, none⟩ = some (.int .i64 c.jit) := fun nq => Blk.in OB nq.h rfl
  refine Cls.region (Lows (w.alloc (.cells #[.int .i64 c.mi, .int .i64 c.mo, .int .i64 c.sh, .int .i64 c.mb, .int .i64 c.bo, .int .u64 (c.s : Nat), .int .i64 c.qg, .int .i64 c.qp, .int .i64 c.qw, .int .i64 c.qt, .int .i64 c.half, .int .i64 c.lim, .int .i64 c.bf, .int .i64 c.base, .int .i64 c.cap, .int .i64 c.jit] 26))) (by kernel_rfl) (by kernel_rfl) (low_drewN (Below.refl _ _) 1) ?_
  (try dsimp only [List.append])
  repeat (go_big_quiet_step (first | fail | (with_reducible exact Cls.call ((lows_call C1).out _ (Cls.h _))) | (with_reducible exact Cls.call ((lows_call C2).out _ (Cls.h _))) | (with_reducible exact Cls.call ((lows_same C3).out _ (Cls.h _))) | (with_reducible exact Cls.call ((lows_same C4).out _ (Cls.h _)))))
  refine wpQuiet_nil ?_
  intro n9
  have hk9 := n9.h
  generalize n9.w = w9 at hk9 ⊢
  clear hne n9 f0 f1 f2 f3 f4 f5 f6 f7 f8 f9 f10 f11 f12 f13 f14 f15
  go_wp2
  go_ret
  exact ⟨by rw [E.out]; rfl, low_trans L0.out hk9⟩
set_option maxHeartbeats 4000000 in
theorem rnext_any (c : Cf) (hc : c.ok) (f now j : Int) (hf : -9223372036854775808 ≤ f ∧ f ≤ 9223372036854775807) (hj : -9223372036854775808 ≤ j ∧ j ≤ 9223372036854775807) (w : World) :
    Calls Try.prog 28 #[.agg #[.int .i64 c.mi, .int .i64 c.mo, .int .i64 c.sh, .int .i64 c.mb, .int .i64 c.bo, .int .u64 (c.s : Nat), .int .i64 c.qg, .int .i64 c.qp, .int .i64 c.qw, .int .i64 c.qt, .int .i64 c.half, .int .i64 c.lim, .int .i64 c.bf, .int .i64 c.base, .int .i64 c.cap, .int .i64 c.jit], .int .i64 f, .int .i64 now, .int .i64 j] w fun e w' => e = .returned (.int .i64 (nextR c f now j)) ∧ Below w.heap.size w w' := by
  have L0 : Hid (Below w.heap.size w (w.alloc (.cells #[.int .i64 c.mi, .int .i64 c.mo, .int .i64 c.sh, .int .i64 c.mb, .int .i64 c.bo, .int .u64 (c.s : Nat), .int .i64 c.qg, .int .i64 c.qp, .int .i64 c.qw, .int .i64 c.qt, .int .i64 c.half, .int .i64 c.lim, .int .i64 c.bf, .int .i64 c.base, .int .i64 c.cap, .int .i64 c.jit] 26))) := Lib.hid (Lows.alloc (Lows.self w) _)
  have OB := Lib.hid (Blk.new w #[.int .i64 c.mi, .int .i64 c.mo, .int .i64 c.sh, .int .i64 c.mb, .int .i64 c.bo, .int .u64 (c.s : Nat), .int .i64 c.qg, .int .i64 c.qp, .int .i64 c.qw, .int .i64 c.qt, .int .i64 c.half, .int .i64 c.lim, .int .i64 c.bf, .int .i64 c.base, .int .i64 c.cap, .int .i64 c.jit] 26)
  have E : Hid (nextR c f now j = add (add now (delayR c f)) (jitR c j)) := Lib.hid rfl
  have C1 := Lib.hid (fun W => rdelay_any c hc f hf W)
  have C2 := Lib.hid (fun W => rjitter_any c hc j hj W)
  have C3 := Lib.hid (fun W => radd_any now (delayR c f) W)
  have C4 := Lib.hid (fun W => radd_any (add now (delayR c f)) (jitR c j) W)
  generalize add (add now (delayR c f)) (jitR c j) = n at *
  generalize add now (delayR c f) = a at *
  generalize delayR c f = d at *
  generalize jitR c j = m at *
  clear hc hf hj
  go_enter Try.func28, Try.ntmps28
  go_wp2_with fail
  have hne : Nonempty (Cls (Lows (w.alloc (.cells #[.int .i64 c.mi, .int .i64 c.mo, .int .i64 c.sh, .int .i64 c.mb, .int .i64 c.bo, .int .u64 (c.s : Nat), .int .i64 c.qg, .int .i64 c.qp, .int .i64 c.qw, .int .i64 c.qt, .int .i64 c.half, .int .i64 c.lim, .int .i64 c.bf, .int .i64 c.base, .int .i64 c.cap, .int .i64 c.jit] 26)))) := ⟨⟨_, Lows.self _⟩⟩
  have f0 : ∀ nq : Cls (Lows (w.alloc (.cells #[.int .i64 c.mi, .int .i64 c.mo, .int .i64 c.sh, .int .i64 c.mb, .int .i64 c.bo, .int .u64 (c.s : Nat), .int .i64 c.qg, .int .i64 c.qp, .int .i64 c.qw, .int .i64 c.qt, .int .i64 c.half, .int .i64 c.lim, .int .i64 c.bf, .int .i64 c.base, .int .i64 c.cap, .int .i64 c.jit] 26))), nq.w.cell? ⟨w.heap.size, 0, none⟩ = some (.int .i64 c.mi) := fun nq => Blk.in OB nq.h rfl
  have f1 : ∀ nq : Cls (Lows (w.alloc (.cells #[.int .i64 c.mi, .int .i64 c.mo, .int .i64 c.sh, .int .i64 c.mb, .int .i64 c.bo, .int .u64 (c.s : Nat), .int .i64 c.qg, .int .i64 c.qp, .int .i64 c.qw, .int .i64 c.qt, .int .i64 c.half, .int .i64 c.lim, .int .i64 c.bf, .int .i64 c.base, .int .i64 c.cap, .int .i64 c.jit] 26))), nq.w.cell? ⟨w.heap.size, 1, none⟩ = some (.int .i64 c.mo) := fun nq => Blk.in OB nq.h rfl
  have f2 : ∀ nq : Cls (Lows (w.alloc (.cells #[.int .i64 c.mi, .int .i64 c.mo, .int .i64 c.sh, .int .i64 c.mb, .int .i64 c.bo, .int .u64 (c.s : Nat), .int .i64 c.qg, .int .i64 c.qp, .int .i64 c.qw, .int .i64 c.qt, .int .i64 c.half, .int .i64 c.lim, .int .i64 c.bf, .int .i64 c.base, .int .i64 c.cap, .int .i64 c.jit] 26))), nq.w.cell? ⟨w.heap.size, 2, none⟩ = some (.int .i64 c.sh) := fun nq => Blk.in OB nq.h rfl
  have f3 : ∀ nq : Cls (Lows (w.alloc (.cells #[.int .i64 c.mi, .int .i64 c.mo, .int .i64 c.sh, .int .i64 c.mb, .int .i64 c.bo, .int .u64 (c.s : Nat), .int .i64 c.qg, .int .i64 c.qp, .int .i64 c.qw, .int .i64 c.qt, .int .i64 c.half, .int .i64 c.lim, .int .i64 c.bf, .int .i64 c.base, .int .i64 c.cap, .int .i64 c.jit] 26))), nq.w.cell? ⟨w.heap.size, 3, none⟩ = some (.int .i64 c.mb) := fun nq => Blk.in OB nq.h rfl
  have f4 : ∀ nq : Cls (Lows (w.alloc (.cells #[.int .i64 c.mi, .int .i64 c.mo, .int .i64 c.sh, .int .i64 c.mb, .int .i64 c.bo, .int .u64 (c.s : Nat), .int .i64 c.qg, .int .i64 c.qp, .int .i64 c.qw, .int .i64 c.qt, .int .i64 c.half, .int .i64 c.lim, .int .i64 c.bf, .int .i64 c.base, .int .i64 c.cap, .int .i64 c.jit] 26))), nq.w.cell? ⟨w.heap.size, 4, none⟩ = some (.int .i64 c.bo) := fun nq => Blk.in OB nq.h rfl
  have f5 : ∀ nq : Cls (Lows (w.alloc (.cells #[.int .i64 c.mi, .int .i64 c.mo, .int .i64 c.sh, .int .i64 c.mb, .int .i64 c.bo, .int .u64 (c.s : Nat), .int .i64 c.qg, .int .i64 c.qp, .int .i64 c.qw, .int .i64 c.qt, .int .i64 c.half, .int .i64 c.lim, .int .i64 c.bf, .int .i64 c.base, .int .i64 c.cap, .int .i64 c.jit] 26))), nq.w.cell? ⟨w.heap.size, 5, none⟩ = some (.int .u64 (c.s : Nat)) := fun nq => Blk.in OB nq.h rfl
  have f6 : ∀ nq : Cls (Lows (w.alloc (.cells #[.int .i64 c.mi, .int .i64 c.mo, .int .i64 c.sh, .int .i64 c.mb, .int .i64 c.bo, .int .u64 (c.s : Nat), .int .i64 c.qg, .int .i64 c.qp, .int .i64 c.qw, .int .i64 c.qt, .int .i64 c.half, .int .i64 c.lim, .int .i64 c.bf, .int .i64 c.base, .int .i64 c.cap, .int .i64 c.jit] 26))), nq.w.cell? ⟨w.heap.size, 6, none⟩ = some (.int .i64 c.qg) := fun nq => Blk.in OB nq.h rfl
  have f7 : ∀ nq : Cls (Lows (w.alloc (.cells #[.int .i64 c.mi, .int .i64 c.mo, .int .i64 c.sh, .int .i64 c.mb, .int .i64 c.bo, .int .u64 (c.s : Nat), .int .i64 c.qg, .int .i64 c.qp, .int .i64 c.qw, .int .i64 c.qt, .int .i64 c.half, .int .i64 c.lim, .int .i64 c.bf, .int .i64 c.base, .int .i64 c.cap, .int .i64 c.jit] 26))), nq.w.cell? ⟨w.heap.size, 7, none⟩ = some (.int .i64 c.qp) := fun nq => Blk.in OB nq.h rfl
  have f8 : ∀ nq : Cls (Lows (w.alloc (.cells #[.int .i64 c.mi, .int .i64 c.mo, .int .i64 c.sh, .int .i64 c.mb, .int .i64 c.bo, .int .u64 (c.s : Nat), .int .i64 c.qg, .int .i64 c.qp, .int .i64 c.qw, .int .i64 c.qt, .int .i64 c.half, .int .i64 c.lim, .int .i64 c.bf, .int .i64 c.base, .int .i64 c.cap, .int .i64 c.jit] 26))), nq.w.cell? ⟨w.heap.size, 8, none⟩ = some (.int .i64 c.qw) := fun nq => Blk.in OB nq.h rfl
  have f9 : ∀ nq : Cls (Lows (w.alloc (.cells #[.int .i64 c.mi, .int .i64 c.mo, .int .i64 c.sh, .int .i64 c.mb, .int .i64 c.bo, .int .u64 (c.s : Nat), .int .i64 c.qg, .int .i64 c.qp, .int .i64 c.qw, .int .i64 c.qt, .int .i64 c.half, .int .i64 c.lim, .int .i64 c.bf, .int .i64 c.base, .int .i64 c.cap, .int .i64 c.jit] 26))), nq.w.cell? ⟨w.heap.size, 9, none⟩ = some (.int .i64 c.qt) := fun nq => Blk.in OB nq.h rfl
  have f10 : ∀ nq : Cls (Lows (w.alloc (.cells #[.int .i64 c.mi, .int .i64 c.mo, .int .i64 c.sh, .int .i64 c.mb, .int .i64 c.bo, .int .u64 (c.s : Nat), .int .i64 c.qg, .int .i64 c.qp, .int .i64 c.qw, .int .i64 c.qt, .int .i64 c.half, .int .i64 c.lim, .int .i64 c.bf, .int .i64 c.base, .int .i64 c.cap, .int .i64 c.jit] 26))), nq.w.cell? ⟨w.heap.size, 10, none⟩ = some (.int .i64 c.half) := fun nq => Blk.in OB nq.h rfl
  have f11 : ∀ nq : Cls (Lows (w.alloc (.cells #[.int .i64 c.mi, .int .i64 c.mo, .int .i64 c.sh, .int .i64 c.mb, .int .i64 c.bo, .int .u64 (c.s : Nat), .int .i64 c.qg, .int .i64 c.qp, .int .i64 c.qw, .int .i64 c.qt, .int .i64 c.half, .int .i64 c.lim, .int .i64 c.bf, .int .i64 c.base, .int .i64 c.cap, .int .i64 c.jit] 26))), nq.w.cell? ⟨w.heap.size, 11, none⟩ = some (.int .i64 c.lim) := fun nq => Blk.in OB nq.h rfl
  have f12 : ∀ nq : Cls (Lows (w.alloc (.cells #[.int .i64 c.mi, .int .i64 c.mo, .int .i64 c.sh, .int .i64 c.mb, .int .i64 c.bo, .int .u64 (c.s : Nat), .int .i64 c.qg, .int .i64 c.qp, .int .i64 c.qw, .int .i64 c.qt, .int .i64 c.half, .int .i64 c.lim, .int .i64 c.bf, .int .i64 c.base, .int .i64 c.cap, .int .i64 c.jit] 26))), nq.w.cell? ⟨w.heap.size, 12, none⟩ = some (.int .i64 c.bf) := fun nq => Blk.in OB nq.h rfl
  have f13 : ∀ nq : Cls (Lows (w.alloc (.cells #[.int .i64 c.mi, .int .i64 c.mo, .int .i64 c.sh, .int .i64 c.mb, .int .i64 c.bo, .int .u64 (c.s : Nat), .int .i64 c.qg, .int .i64 c.qp, .int .i64 c.qw, .int .i64 c.qt, .int .i64 c.half, .int .i64 c.lim, .int .i64 c.bf, .int .i64 c.base, .int .i64 c.cap, .int .i64 c.jit] 26))), nq.w.cell? ⟨w.heap.size, 13, none⟩ = some (.int .i64 c.base) := fun nq => Blk.in OB nq.h rfl
  have f14 : ∀ nq : Cls (Lows (w.alloc (.cells #[.int .i64 c.mi, .int .i64 c.mo, .int .i64 c.sh, .int .i64 c.mb, .int .i64 c.bo, .int .u64 (c.s : Nat), .int .i64 c.qg, .int .i64 c.qp, .int .i64 c.qw, .int .i64 c.qt, .int .i64 c.half, .int .i64 c.lim, .int .i64 c.bf, .int .i64 c.base, .int .i64 c.cap, .int .i64 c.jit] 26))), nq.w.cell? ⟨w.heap.size, 14, none⟩ = some (.int .i64 c.cap) := fun nq => Blk.in OB nq.h rfl
  have f15 : ∀ nq : Cls (Lows (w.alloc (.cells #[.int .i64 c.mi, .int .i64 c.mo, .int .i64 c.sh, .int .i64 c.mb, .int .i64 c.bo, .int .u64 (c.s : Nat), .int .i64 c.qg, .int .i64 c.qp, .int .i64 c.qw, .int .i64 c.qt, .int .i64 c.half, .int .i64 c.lim, .int .i64 c.bf, .int .i64 c.base, .int .i64 c.cap, .int .i64 c.jit] 26))), nq.w.cell? ⟨w.heap.size, 15, none⟩ = some (.int .i64 c.jit) := fun nq => Blk.in OB nq.h rfl
  refine Cls.region (Lows (w.alloc (.cells #[.int .i64 c.mi, .int .i64 c.mo, .int .i64 c.sh, .int .i64 c.mb, .int .i64 c.bo, .int .u64 (c.s : Nat), .int .i64 c.qg, .int .i64 c.qp, .int .i64 c.qw, .int .i64 c.qt, .int .i64 c.half, .int .i64 c.lim, .int .i64 c.bf, .int .i64 c.base, .int .i64 c.cap, .int .i64 c.jit] 26))) (by kernel_rfl) (by kernel_rfl) (low_drewN (Below.refl _ _) 1) ?_
  (try dsimp only [List.append])
  repeat (go_big_quiet_step (first | fail | (with_reducible exact Cls.call ((lows_call C1).out _ (Cls.h _))) | (with_reducible exact Cls.call ((lows_call C2).out _ (Cls.h _))) | (with_reducible exact Cls.call ((lows_same C3).out _ (Cls.h _))) | (with_reducible exact Cls.call ((lows_same C4).out _ (Cls.h _)))))
  refine wpQuiet_nil ?_
  intro n9
  have hk9 := n9.h
  generalize n9.w = w9 at hk9 ⊢
  clear hne n9 f0 f1 f2 f3 f4 f5 f6 f7 f8 f9 f10 f11 f12 f13 f14 f15
  go_wp2
  go_ret
  exact ⟨by rw [E.out]; rfl, low_trans L0.out hk9⟩
end Go.Proofs.Ytnknhmfhejdbfaa.Bk
