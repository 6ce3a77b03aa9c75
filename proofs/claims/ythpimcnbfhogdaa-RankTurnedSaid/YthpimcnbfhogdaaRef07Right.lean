/- The document's answers for layer 7: which may be, and their texts. -/
import Derived.Test.YthpimcnbfhogdaaRef06All
import Derived.Test.YthpimcnbfhogdaaCidrLow
import Derived.Test.YthpimcnbfhogdaaCls
namespace Go.Proofs.Ythpimcnbfhogdaa.Ci
set_option maxRecDepth 100000
open Go.ChangeShapes Go.WideShapes Go.ChangeAt Go.RowKit
open Dec Words V4 V6 Ad
set_option linter.unusedVariables false
theorem right_bits {n : Net} (hn : n.ok) (hm : makeB n.a n.n = true) : rightN n = true ↔ ∀ j, n.n.toNat ≤ j → j < bitsA n.a → bitN n.a j = 0 := by
  obtain ⟨h1, h2, h3⟩ := (makeB_iff _ _).1 hm
  rw [rightN_iff, first_bits h1 hn.1 (by omega)]
  exact ⟨fun h => h.2, fun h => ⟨hm, h⟩⟩
theorem right_no {n : Net} (h : makeB n.a n.n = false) : rightN n = false := by
  unfold rightN hasN; rw [h]; rfl
theorem bitN_two (a : Adr) (j : Nat) : bitN a j = 0 ∨ bitN a j = 1 := by unfold bitN; split <;> (try split) <;> omega
theorem bitA_in {a : Adr} {j : Nat} (h : j < bitsA a) : bitA a (j : Int) = (bitN a j : Nat) := by unfold bitA; rw [if_pos (by omega), Int.toNat_natCast]
end Go.Proofs.Ythpimcnbfhogdaa.Ci

namespace Go.Proofs.Ythpimcnbfhogdaa.Ci
set_option maxRecDepth 100000
open Go.ChangeShapes Go.WideShapes Go.ChangeAt Go.RowKit
open Dec Words V4 V6 Ad
set_option linter.unusedVariables false
theorem cat3 (a b : List UInt8) : Value.string (⟨a.toArray⟩ ++ ⟨#[47]⟩ ++ ⟨b.toArray⟩) = .string ⟨(a ++ 47 :: b).toArray⟩ := by
  show Value.string (⟨a.toArray⟩ ++ ⟨[47].toArray⟩ ++ ⟨b.toArray⟩) = _
  simp only [ByteArray.mk_append_mk]
  simp
end Go.Proofs.Ythpimcnbfhogdaa.Ci
