/- Package entry and the answers of its document, layer 25: the mathematics, the contracts. -/
import Derived.Test.YtbonfmjalgfgaaaBackoff
import Derived.Test.YtbonfmjalgfgaaaRef09All
import Derived.Test.YtbonfmjalgfgaaaBox
import Derived.Test.YtbonfmjalgfgaaaTail
import Derived.Lib.MinMax
namespace Go.Proofs.Ytbonfmjalgfgaaa.Et
set_option maxRecDepth 100000
open Go.ChangeShapes Go.WideShapes Go.ChangeAt Go.RowKit
open Ad Ci En Sat Bk
set_option linter.unusedVariables false
/-- An entry of the book: its end, its state, how often dialling failed, from when on it may be dialled. -/
structure Ey where
  e : Endp
  st : Int
  f : Int
  nx : Int
structure Ey.ok (y : Ey) : Prop where
  he : y.e.ok
  hst : i64B y.st
  hf : i64B y.f
  hnx : i64B y.nx
def encY (y : Ey) : List Value := [.bool y.e.a.v6, .int .u64 y.e.a.hi, .int .u64 y.e.a.lo, .int .i64 y.e.n, .int .i64 y.st, .int .i64 y.f, .int .i64 y.nx]
theorem encY_len (y : Ey) : (encY y).length = 7 := rfl
def inB (n a b : Int) : Bool := decide (a ≤ n) && decide (n ≤ b)
theorem inB_iff (n a b : Int) : inB n a b = true ↔ a ≤ n ∧ n ≤ b := by unfold inB; simp
def rightY (y : Ey) : Bool := rightE y.e && inB y.st 1 3 && inB y.f 0 1000 && inB y.nx 0 1099511627776
theorem rightY_iff (y : Ey) : rightY y = true ↔ rightE y.e = true ∧ (1 ≤ y.st ∧ y.st ≤ 3) ∧ (0 ≤ y.f ∧ y.f ≤ 1000) ∧ (0 ≤ y.nx ∧ y.nx ≤ 1099511627776) := by
  unfold rightY; simp only [Bool.and_eq_true, inB_iff, and_assoc]
def newY (e : Endp) (n : Int) : Ey := ⟨e, 1, 0, fit n⟩
def dueY (y : Ey) (n : Int) : Bool := y.st == 1 && decide (y.nx ≤ n)
def stateY (y : Ey) (s : Int) : Ey := ⟨y.e, s, y.f, y.nx⟩
def goodY (y : Ey) : Ey := ⟨y.e, 3, 0, y.nx⟩
def moreF (f : Int) : Int := min (max f 0) 999 + 1
def failY (c : Cf) (y : Ey) (n j : Int) : Ey := ⟨y.e, 1, moreF y.f, nextR c (moreF y.f) n j⟩
theorem more_bd (f : Int) : 1 ≤ moreF f ∧ moreF f ≤ 1000 := by unfold moreF; omega
theorem more_right {f : Int} (h : 0 ≤ f ∧ f ≤ 1000) : moreF f = min (f + 1) 1000 := by unfold moreF; omega
theorem next_bd (c : Cf) (f n j : Int) : 0 ≤ nextR c f n j ∧ nextR c f n j ≤ 1099511627776 := add_bd _ _
theorem new_right {e : Endp} (h : rightE e = true) (n : Int) : rightY (newY e n) = true := (rightY_iff _).2 ⟨h, by show (1 : Int) ≤ 1 ∧ (1 : Int) ≤ 3; decide, by show (0 : Int) ≤ 0 ∧ (0 : Int) ≤ 1000; decide, fit_bd n⟩
theorem state_right {y : Ey} (h : rightY y = true) {s : Int} (hs : 1 ≤ s ∧ s ≤ 3) : rightY (stateY y s) = true := by
  have k := (rightY_iff _).1 h
  exact (rightY_iff _).2 ⟨k.1, hs, k.2.2.1, k.2.2.2⟩
theorem good_right {y : Ey} (h : rightY y = true) : rightY (goodY y) = true := by
  have k := (rightY_iff _).1 h
  exact (rightY_iff _).2 ⟨k.1, by show (1 : Int) ≤ 3 ∧ (3 : Int) ≤ 3; decide, by show (0 : Int) ≤ 0 ∧ (0 : Int) ≤ 1000; decide, k.2.2.2⟩
theorem fail_right {y : Ey} (h : rightY y = true) (c : Cf) (n j : Int) : rightY (failY c y n j) = true := by
  have k := (rightY_iff _).1 h
  have m := more_bd y.f
  exact (rightY_iff _).2 ⟨k.1, by show (1 : Int) ≤ 1 ∧ (1 : Int) ≤ 3; decide, ⟨by show 0 ≤ moreF y.f; omega, m.2⟩, next_bd _ _ _ _⟩
theorem right_ok {y : Ey} (he : y.e.ok) (h : rightY y = true) : y.ok := by
  have k := (rightY_iff _).1 h
  refine ⟨he, ?_, ?_, ?_⟩ <;> unfold i64B <;> omega
theorem fail_due (c : Cf) (y : Ey) (n j : Int) : dueY (failY c y n j) (nextR c (moreF y.f) n j - 1) = false ∧ dueY (failY c y n j) (nextR c (moreF y.f) n j) = true := by
  unfold dueY failY
  constructor
  · simp; omega
  · simp
end Go.Proofs.Ytbonfmjalgfgaaa.Et
