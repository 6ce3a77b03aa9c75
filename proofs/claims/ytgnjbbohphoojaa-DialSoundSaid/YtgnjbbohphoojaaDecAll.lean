/- Contracts of package dec and of its document's answers. -/
import Derived.Test.YtgnjbbohphoojaaKit
import Derived.Test.YtgnjbbohphoojaaMath
import Derived.Deep.OwnRows
import Derived.Laws.IdiomStrings
namespace Go.Proofs.Ytgnjbbohphoojaa.Dec
set_option maxRecDepth 100000
open Go.ChangeShapes Go.WideShapes Go.ChangeAt Go.RowKit
set_option linter.unusedVariables false
end Go.Proofs.Ytgnjbbohphoojaa.Dec
/- Contracts of package dec: texts. -/
namespace Go.Proofs.Ytgnjbbohphoojaa.Dec
set_option maxRecDepth 100000
open Go.ChangeShapes Go.WideShapes Go.ChangeAt Go.RowKit
set_option linter.unusedVariables false
def byteV (c : UInt8) : Value := .int .u8 (c.toNat : Int)
theorem figs_get (d : Nat) (h : d < 16) : ((⟨#[48, 49, 50, 51, 52, 53, 54, 55, 56, 57, 97, 98, 99, 100, 101, 102]⟩ : ByteArray)[d]'h) = digit d := by
  have : ∀ d : Fin 16, ((⟨#[48, 49, 50, 51, 52, 53, 54, 55, 56, 57, 97, 98, 99, 100, 101, 102]⟩ : ByteArray)[d.val]'d.isLt) = digit d.val := by decide
  exact this ⟨d, h⟩
/-- c digits are written, from place p on; m is left. -/
def WI (b n c p m : Nat) (suf : List UInt8) (f : Nat → Value) : Prop :=
  suf.length = c ∧ (∀ j (hj : j < suf.length), f (p + j) = byteV suf[j]) ∧ digs b n = digs b m ++ suf ∧ (c = 0 ∨ 1 ≤ m) ∧ m * b ^ c ≤ n
theorem WI.cells {b n c q m : Nat} {suf : List UInt8} {f : Nat → Value} {d : UInt8} (h : WI b n c (q + 1) m suf f) : ∀ j (hj : j < (d :: suf).length), (fun j => if j = q then byteV d else f j) (q + j) = byteV (d :: suf)[j] := by
  intro j hj
  cases j with
  | zero => simp
  | succ j =>
    have := h.2.1 j (by simpa using hj)
    have e : q + 1 + j = q + (j + 1) := by omega
    rw [e] at this
    simp only [List.getElem_cons_succ]
    rw [if_neg (by omega), this]
theorem WI.next {b n c q m : Nat} {suf : List UInt8} {f : Nat → Value} (h : WI b n c (q + 1) m suf f) (hb : 2 ≤ b) (hm : b ≤ m) :
    WI b n (c + 1) q (m / b) (digit (m % b) :: suf) (fun j => if j = q then byteV (digit (m % b)) else f j) := by
  obtain ⟨h1, h2, h3, h4, h5⟩ := h
  refine ⟨by simp [h1], WI.cells ⟨h1, h2, h3, h4, h5⟩, ?_, Or.inr (Nat.div_pos hm (by omega)), ?_⟩
  · rw [h3, digs_hi hb hm]; simp
  · have : m / b * b ≤ m := Nat.div_mul_le_self m b
    have := Nat.mul_le_mul_right (b ^ c) this
    rw [Nat.pow_succ, Nat.mul_comm (b ^ c) b, ← Nat.mul_assoc]; omega
theorem WI.last {b n c q m : Nat} {suf : List UInt8} {f : Nat → Value} (h : WI b n c (q + 1) m suf f) (hm : m < b) : digs b n = digit (m % b) :: suf := by
  rw [h.2.2.1, digs_lo hm, Nat.mod_eq_of_lt hm]; rfl
theorem WI.full {b n m p : Nat} {suf : List UInt8} {f : Nat → Value} (h : WI b n 20 p m suf f) (hb : 10 ≤ b) (hn : n ≤ 18446744073709551615) : False := by
  obtain ⟨_, _, _, h4, h5⟩ := h
  have h6 : (10 : Nat) ^ 20 ≤ b ^ 20 := Nat.pow_le_pow_left hb 20
  have h7 : (10 : Nat) ^ 20 = 100000000000000000000 := by decide
  have : 1 * b ^ 20 ≤ m * b ^ 20 := Nat.mul_le_mul_right _ (by omega)
  omega
theorem zeros20 (i : Nat) (hi : i < 20) : (#[Value.int .u8 0, .int .u8 0, .int .u8 0, .int .u8 0, .int .u8 0, .int .u8 0, .int .u8 0, .int .u8 0, .int .u8 0, .int .u8 0, .int .u8 0, .int .u8 0, .int .u8 0, .int .u8 0, .int .u8 0, .int .u8 0, .int .u8 0, .int .u8 0, .int .u8 0, .int .u8 0] : Array Value)[i]? = some (.int .u8 0) := by
  have e : (#[Value.int .u8 0, .int .u8 0, .int .u8 0, .int .u8 0, .int .u8 0, .int .u8 0, .int .u8 0, .int .u8 0, .int .u8 0, .int .u8 0, .int .u8 0, .int .u8 0, .int .u8 0, .int .u8 0, .int .u8 0, .int .u8 0, .int .u8 0, .int .u8 0, .int .u8 0, .int .u8 0] : Array Value) = Array.replicate 20 (.int .u8 0) := rfl
  rw [e, Array.getElem?_replicate, if_pos hi]
end Go.Proofs.Ytgnjbbohphoojaa.Dec
/- Contracts of package dec: digits to base 16, written and read. -/
namespace Go.Proofs.Ytgnjbbohphoojaa.Dec
set_option maxRecDepth 100000
open Go.ChangeShapes Go.WideShapes Go.ChangeAt Go.RowKit
set_option linter.unusedVariables false
end Go.Proofs.Ytgnjbbohphoojaa.Dec
