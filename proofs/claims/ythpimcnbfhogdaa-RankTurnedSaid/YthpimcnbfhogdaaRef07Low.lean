/- The document's answers for layer 7: what is cut, masked, made. -/
import Derived.Test.YthpimcnbfhogdaaRef06All
import Derived.Test.YthpimcnbfhogdaaCidrLow
namespace Go.Proofs.Ythpimcnbfhogdaa.Ci
set_option maxRecDepth 100000
open Go.ChangeShapes Go.WideShapes Go.ChangeAt Go.RowKit
open Dec Words V4 V6 Ad
set_option linter.unusedVariables false
/-- What the document's loop has of the first numbers behind k rounds. -/
def cutH (hi n k : Nat) : Nat := keep hi (64 - min k n)
def cutL (lo n k : Nat) : Nat := keep lo (64 - min k (n - 64))
theorem cut_on {x n k : Nat} (hk : k < 64) (h : k < n) : keep x (64 - min (k + 1) n) = keep x (64 - min k n) + x / 2 ^ (63 - k) % 2 * 2 ^ (63 - k) := by
  rw [show 64 - min (k + 1) n = 63 - k from by omega, show 64 - min k n = (63 - k) + 1 from by omega, keep_step x (63 - k)]
theorem cut_off' {x n k : Nat} (h : n ≤ k) : keep x (64 - min (k + 1) n) = keep x (64 - min k n) := by
  rw [show min (k + 1) n = min k n from by omega]
def half (k : Nat) : Nat := 9223372036854775808 / 2 ^ k
theorem half_lt {k : Nat} (hk : k < 64) : half k = 2 ^ (63 - k) := by
  unfold half
  rw [show (9223372036854775808 : Nat) = 2 ^ 63 from by decide, Nat.pow_div (by omega) (by omega)]
theorem half_pos {k : Nat} (hk : k < 64) : 0 < half k ∧ half k ≤ 9223372036854775808 := by
  refine ⟨by rw [half_lt hk]; exact Nat.two_pow_pos _, Nat.div_le_self _ _⟩
theorem half_next (k : Nat) : half k / 2 = half (k + 1) := by
  unfold half
  rw [Nat.div_div_eq_div_mul, Nat.pow_succ]
theorem cut_end_hi {hi n : Nat} : cutH hi n 64 = keep hi (64 - n) := by unfold cutH; congr 1; omega
theorem cut_end_lo {lo n : Nat} (h : lo < 18446744073709551616) (hn : n ≤ 128) : cutL lo n 64 = keep lo (128 - n) := by
  unfold cutL
  by_cases h64 : 64 ≤ n
  · congr 1; omega
  · rw [show 64 - min 64 (n - 64) = 64 from by omega, keep_low (r := 64) (by omega), keep_low (r := 128 - n) (Nat.lt_of_lt_of_le h (Nat.pow_le_pow_right (n := 2) (i := 64) (by omega) (by omega)))]
theorem odd_u64 {q : Nat} (h : q < 18446744073709551616) : (IntKind.u64.wrap (q : Int)).tmod 2 = ((q % 2 : Nat) : Int) := by
  rw [IntKind.wrap_u64, Int.emod_eq_of_lt (by omega) (by omega), Int.tmod_eq_emod_of_nonneg (by omega)]; rfl
theorem cut_ways {hi n k : Nat} (hk : k < 64) (h : hi < 18446744073709551616) :
    (k < n ∧ ((IntKind.u64.wrap ((hi : Int) / (half k : Int))).tmod 2 == 1) = true ∧ cutH hi n (k + 1) = cutH hi n k + half k ∧ cutH hi n k + half k ≤ 18446744073709551615) ∨
    (k < n ∧ ((IntKind.u64.wrap ((hi : Int) / (half k : Int))).tmod 2 == 1) = false ∧ cutH hi n (k + 1) = cutH hi n k) ∨ (¬ k < n ∧ cutH hi n (k + 1) = cutH hi n k) := by
  have hl := keep_le hi (64 - min (k + 1) n)
  have he : (IntKind.u64.wrap ((hi : Int) / (half k : Int))).tmod 2 = ((hi / half k % 2 : Nat) : Int) := by
    rw [← Int.natCast_ediv]; exact odd_u64 (Nat.lt_of_le_of_lt (Nat.div_le_self _ _) h)
  by_cases hn : k < n
  · have hs := cut_on (x := hi) hk hn
    rw [← half_lt hk] at hs
    unfold cutH
    rcases Nat.mod_two_eq_zero_or_one (hi / half k) with h0 | h1
    · refine .inr (.inl ⟨hn, by rw [he, h0]; rfl, by rw [hs, h0]; omega⟩)
    · rw [h1, Nat.one_mul] at hs
      refine .inl ⟨hn, by rw [he, h1]; rfl, hs, by rw [← hs]; omega⟩
  · exact .inr (.inr ⟨hn, cut_off' (by omega)⟩)
theorem cutL_ways {lo n k : Nat} (hk : k < 64) (h : lo < 18446744073709551616) :
    (k + 64 < n ∧ ((IntKind.u64.wrap ((lo : Int) / (half k : Int))).tmod 2 == 1) = true ∧ cutL lo n (k + 1) = cutL lo n k + half k ∧ cutL lo n k + half k ≤ 18446744073709551615) ∨
    (k + 64 < n ∧ ((IntKind.u64.wrap ((lo : Int) / (half k : Int))).tmod 2 == 1) = false ∧ cutL lo n (k + 1) = cutL lo n k) ∨ (¬ k + 64 < n ∧ cutL lo n (k + 1) = cutL lo n k) := by
  rcases cut_ways (hi := lo) (n := n - 64) hk h with ⟨a, b, c, d⟩ | ⟨a, b, c⟩ | ⟨a, c⟩
  · exact .inl ⟨by omega, b, c, d⟩
  · exact .inr (.inl ⟨by omega, b, c⟩)
  · exact .inr (.inr ⟨by omega, c⟩)
end Go.Proofs.Ythpimcnbfhogdaa.Ci

namespace Go.Proofs.Ythpimcnbfhogdaa.Ci
set_option maxRecDepth 100000
open Go.ChangeShapes Go.WideShapes Go.ChangeAt Go.RowKit
open Dec Words V4 V6 Ad
set_option linter.unusedVariables false
theorem mask_six {hi lo k : Nat} {i : Int} (hr : rightA ⟨true, hi, lo⟩ = true) (hk : k = min i.toNat 128) : maskA ⟨true, hi, lo⟩ i = ⟨true, keep hi (64 - k), keep lo (128 - k)⟩ := by
  unfold maskA
  rw [if_pos hr, show bitsA ⟨true, hi, lo⟩ = 128 from rfl, ← hk]
  unfold firstA
  rw [show bitsA ⟨true, hi, lo⟩ = 128 from rfl]
  simp only []
  rw [show 128 - k - 64 = 64 - k from by omega]
theorem mask_four {lo k : Nat} {i : Int} (hr : rightA ⟨false, 0, lo⟩ = true) (hk : k = min i.toNat 32) : maskA ⟨false, 0, lo⟩ i = ⟨false, 0, keep lo (128 - (96 + k))⟩ := by
  unfold maskA
  rw [if_pos hr, show bitsA ⟨false, 0, lo⟩ = 32 from rfl, ← hk]
  unfold firstA
  rw [show bitsA ⟨false, 0, lo⟩ = 32 from rfl]
  simp only []
  rw [keep_nil, show 32 - k = 128 - (96 + k) from by omega]
end Go.Proofs.Ythpimcnbfhogdaa.Ci

namespace Go.Proofs.Ythpimcnbfhogdaa.Ci
set_option maxRecDepth 100000
open Go.ChangeShapes Go.WideShapes Go.ChangeAt Go.RowKit
open Dec Words V4 V6 Ad
set_option linter.unusedVariables false
end Go.Proofs.Ythpimcnbfhogdaa.Ci
