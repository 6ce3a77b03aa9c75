/- Package backoff and the answers of its document, layer 23: the mathematics, the contracts. -/
import Derived.Test.YtgnjbbohphoojaaSat
import Derived.Test.YtgnjbbohphoojaaBox
import Derived.Lib.MinMax
namespace Go.Proofs.Ytgnjbbohphoojaa.Bk
set_option maxRecDepth 100000
open Go.ChangeShapes Go.WideShapes Go.ChangeAt Go.RowKit
open Sat
set_option linter.unusedVariables false
/-- What a manager is set to. -/
structure Cf where
  mi : Int
  mo : Int
  sh : Int
  mb : Int
  bo : Int
  s : Nat
  qg : Int
  qp : Int
  qw : Int
  qt : Int
  half : Int
  lim : Int
  bf : Int
  base : Int
  cap : Int
  jit : Int
def i64B (n : Int) : Prop := -9223372036854775808 ≤ n ∧ n ≤ 9223372036854775807
structure Cf.ok (c : Cf) : Prop where
  hmi : i64B c.mi
  hmo : i64B c.mo
  hsh : i64B c.sh
  hmb : i64B c.mb
  hbo : i64B c.bo
  hs : c.s < 18446744073709551616
  hqg : i64B c.qg
  hqp : i64B c.qp
  hqw : i64B c.qw
  hqt : i64B c.qt
  hhalf : i64B c.half
  hlim : i64B c.lim
  hbf : i64B c.bf
  hbase : i64B c.base
  hcap : i64B c.cap
  hjit : i64B c.jit
def delayR (c : Cf) (f : Int) : Int := if f < 1 then 0 else min (fit c.cap) (twice c.base (f - 1))
def jitR (c : Cf) (j : Int) : Int := if c.jit < 1 then 0 else if j.tmod c.jit < 0 then j.tmod c.jit + c.jit else j.tmod c.jit
def nextR (c : Cf) (f now j : Int) : Int := add (add now (delayR c f)) (jitR c j)
theorem twice_nn (a k : Int) : 0 ≤ twice a k := by unfold twice; exact (dbl_bd _ _).1
theorem delay_bd (c : Cf) (f : Int) : 0 ≤ delayR c f ∧ delayR c f ≤ fit c.cap := by
  have h1 := fit_bd c.cap
  have h2 := twice_nn c.base (f - 1)
  unfold delayR; split <;> omega
theorem delay_mono (c : Cf) {f g : Int} (h : f ≤ g) : delayR c f ≤ delayR c g := by
  by_cases h1 : f < 1
  · have e : delayR c f = 0 := by unfold delayR; rw [if_pos h1]
    rw [e]; exact (delay_bd c g).1
  · have h2 : twice c.base (f - 1) ≤ twice c.base (g - 1) := twice_grow (by omega)
    unfold delayR; rw [if_neg h1, if_neg (by omega)]
    omega
theorem tmod_bd {j m : Int} (hm : 1 ≤ m) : -m < j.tmod m ∧ j.tmod m < m := by
  refine ⟨?_, Int.tmod_lt_of_pos j (by omega)⟩
  have h := Int.tmod_lt_of_pos (-j) (show 0 < m by omega)
  rw [Int.neg_tmod] at h
  omega
theorem jit_bd (c : Cf) (j : Int) : 0 ≤ jitR c j ∧ jitR c j ≤ max c.jit 0 := by
  unfold jitR
  split
  · omega
  · have := tmod_bd (j := j) (m := c.jit) (by omega)
    split <;> omega
theorem add_mono2 {a b c : Int} (h : a ≤ b) : add c a ≤ add c b := by rw [add_comm' c a, add_comm' c b]; exact add_mono h
theorem add_bd (a b : Int) : 0 ≤ add a b ∧ add a b ≤ 1099511627776 := fit_bd _
theorem add_from {a b : Int} : fit a ≤ add a b := by
  have h1 := fit_bd a
  have h2 := fit_bd b
  have h3 : fit (fit a) ≤ fit (fit a + fit b) := fit_mono (by omega)
  rw [fit_fit] at h3; exact h3
theorem next_mono (c : Cf) {f g : Int} (h : f ≤ g) (now j : Int) : nextR c f now j ≤ nextR c g now j := by
  unfold nextR; exact add_mono (add_mono2 (delay_mono c h))
theorem next_from (c : Cf) (f now j : Int) : fit now ≤ nextR c f now j := by
  have h1 : fit now ≤ add now (delayR c f) := add_from
  have h2 : fit (add now (delayR c f)) ≤ nextR c f now j := add_from
  have h3 := add_bd now (delayR c f)
  rw [fit_of _ h3.1 h3.2] at h2
  omega
theorem add_fit2 (a b : Int) : add a (fit b) = add a b := by unfold add; rw [fit_fit]
theorem next_most (c : Cf) (f now j : Int) : nextR c f now j ≤ add (add now c.cap) (max c.jit 0) := by
  have h1 : add now (delayR c f) ≤ add now c.cap := by rw [← add_fit2 now c.cap]; exact add_mono2 (delay_bd c f).2
  exact Int.le_trans (add_mono h1) (add_mono2 (jit_bd c j).2)
end Go.Proofs.Ytgnjbbohphoojaa.Bk
