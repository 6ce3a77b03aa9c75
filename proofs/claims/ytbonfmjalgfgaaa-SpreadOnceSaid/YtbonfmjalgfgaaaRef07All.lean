/- The document's answers for layer 7: what is cut, masked, made. -/
import Derived.Test.YtbonfmjalgfgaaaRef06All
import Derived.Test.YtbonfmjalgfgaaaCidrAll
import Derived.Test.YtbonfmjalgfgaaaCls
namespace Go.Proofs.Ytbonfmjalgfgaaa.Ci
set_option maxRecDepth 100000
open Go.ChangeShapes Go.WideShapes Go.ChangeAt Go.RowKit
open Dec Words V4 V6 Ad
set_option linter.unusedVariables false
/-- What the document's loop has of the first numbers behind k rounds. -/
def cutH (hi n k : Nat) : Nat := keep hi (64 - min k n)
def cutL (lo n k : Nat) : Nat := keep lo (64 - min k (n - 64))
theorem cut_on {x n k : Nat} (hk : k < 64) (h : k < n) : keep x (64 - min (k + 1) n) = keep x (64 - min k n) + x / 2 ^ (63 - k) % 2 * 2 ^ (63 - k) := by
  rw [show 64 - min (k + 1) n = 63 - k from by omega, show 64 - min k n = (63 - k) + 1 from by omega, keep_step x (63 - k)]
theorem cut_off' {x n k : Nat} (h : n ≤ k) : keep x (64 - min (k + 1) n) = keep x (64 - min k n) := by
  rw [show min (k + 1) n = min k n from by omega]
def half (k : Nat) : Nat := 9223372036854775808 / 2 ^ k
theorem half_lt {k : Nat} (hk : k < 64) : half k = 2 ^ (63 - k) := by
  unfold half
  rw [show (9223372036854775808 : Nat) = 2 ^ 63 from by decide, Nat.pow_div (by omega) (by omega)]
theorem half_pos {k : Nat} (hk : k < 64) : 0 < half k ∧ half k ≤ 9223372036854775808 := by
  refine ⟨by rw [half_lt hk]; exact Nat.two_pow_pos _, Nat.div_le_self _ _⟩
theorem half_next (k : Nat) : half k / 2 = half (k + 1) := by
  unfold half
  rw [Nat.div_div_eq_div_mul, Nat.pow_succ]
theorem cut_end_hi {hi n : Nat} : cutH hi n 64 = keep hi (64 - n) := by unfold cutH; congr 1; omega
theorem cut_end_lo {lo n : Nat} (h : lo < 18446744073709551616) (hn : n ≤ 128) : cutL lo n 64 = keep lo (128 - n) := by
  unfold cutL
  by_cases h64 : 64 ≤ n
  · congr 1; omega
  · rw [show 64 - min 64 (n - 64) = 64 from by omega, keep_low (r := 64) (by omega), keep_low (r := 128 - n) (Nat.lt_of_lt_of_le h (Nat.pow_le_pow_right (n := 2) (i := 64) (by omega) (by omega)))]
theorem odd_u64 {q : Nat} (h : q < 18446744073709551616) : (IntKind.u64.wrap (q : Int)).tmod 2 = ((q % 2 : Nat) : Int) := by
  rw [IntKind.wrap_u64, Int.emod_eq_of_lt (by omega) (by omega), Int.tmod_eq_emod_of_nonneg (by omega)]; rfl
theorem cut_ways {hi n k : Nat} (hk : k < 64) (h : hi < 18446744073709551616) :
    (k < n ∧ ((IntKind.u64.wrap ((hi : Int) / (half k : Int))).tmod 2 == 1) = true ∧ cutH hi n (k + 1) = cutH hi n k + half k ∧ cutH hi n k + half k ≤ 18446744073709551615) ∨
    (k < n ∧ ((IntKind.u64.wrap ((hi : Int) / (half k : Int))).tmod 2 == 1) = false ∧ cutH hi n (k + 1) = cutH hi n k) ∨ (¬ k < n ∧ cutH hi n (k + 1) = cutH hi n k) := by
  have hl := keep_le hi (64 - min (k + 1) n)
  have he : (IntKind.u64.wrap ((hi : Int) / (half k : Int))).tmod 2 = ((hi / half k % 2 : Nat) : Int) := by
    rw [← Int.natCast_ediv]; exact odd_u64 (Nat.lt_of_le_of_lt (Nat.div_le_self _ _) h)
  by_cases hn : k < n
  · have hs := cut_on (x := hi) hk hn
    rw [← half_lt hk] at hs
    unfold cutH
    rcases Nat.mod_two_eq_zero_or_one (hi / half k) with h0 | h1
    · refine .inr (.inl ⟨hn, by rw [he, h0]; rfl, by rw [hs, h0]; omega⟩)
    · rw [h1, Nat.one_mul] at hs
      refine .inl ⟨hn, by rw [he, h1]; rfl, hs, by rw [← hs]; omega⟩
  · exact .inr (.inr ⟨hn, cut_off' (by omega)⟩)
theorem cutL_ways {lo n k : Nat} (hk : k < 64) (h : lo < 18446744073709551616) :
    (k + 64 < n ∧ ((IntKind.u64.wrap ((lo : Int) / (half k : Int))).tmod 2 == 1) = true ∧ cutL lo n (k + 1) = cutL lo n k + half k ∧ cutL lo n k + half k ≤ 18446744073709551615) ∨
    (k + 64 < n ∧ ((IntKind.u64.wrap ((lo : Int) / (half k : Int))).tmod 2 == 1) = false ∧ cutL lo n (k + 1) = cutL lo n k) ∨ (¬ k + 64 < n ∧ cutL lo n (k + 1) = cutL lo n k) := by
  rcases cut_ways (hi := lo) (n := n - 64) hk h with ⟨a, b, c, d⟩ | ⟨a, b, c⟩ | ⟨a, c⟩
  · exact .inl ⟨by omega, b, c, d⟩
  · exact .inr (.inl ⟨by omega, b, c⟩)
  · exact .inr (.inr ⟨by omega, c⟩)
end Go.Proofs.Ytbonfmjalgfgaaa.Ci

namespace Go.Proofs.Ytbonfmjalgfgaaa.Ci
set_option maxRecDepth 100000
open Go.ChangeShapes Go.WideShapes Go.ChangeAt Go.RowKit
open Dec Words V4 V6 Ad
set_option linter.unusedVariables false
theorem mask_six {hi lo k : Nat} {i : Int} (hr : rightA ⟨true, hi, lo⟩ = true) (hk : k = min i.toNat 128) : maskA ⟨true, hi, lo⟩ i = ⟨true, keep hi (64 - k), keep lo (128 - k)⟩ := by
  unfold maskA
  rw [if_pos hr, show bitsA ⟨true, hi, lo⟩ = 128 from rfl, ← hk]
  unfold firstA
  rw [show bitsA ⟨true, hi, lo⟩ = 128 from rfl]
  simp only []
  rw [show 128 - k - 64 = 64 - k from by omega]
theorem mask_four {lo k : Nat} {i : Int} (hr : rightA ⟨false, 0, lo⟩ = true) (hk : k = min i.toNat 32) : maskA ⟨false, 0, lo⟩ i = ⟨false, 0, keep lo (128 - (96 + k))⟩ := by
  unfold maskA
  rw [if_pos hr, show bitsA ⟨false, 0, lo⟩ = 32 from rfl, ← hk]
  unfold firstA
  rw [show bitsA ⟨false, 0, lo⟩ = 32 from rfl]
  simp only []
  rw [keep_nil, show 32 - k = 128 - (96 + k) from by omega]
end Go.Proofs.Ytbonfmjalgfgaaa.Ci

namespace Go.Proofs.Ytbonfmjalgfgaaa.Ci
set_option maxRecDepth 100000
open Go.ChangeShapes Go.WideShapes Go.ChangeAt Go.RowKit
open Dec Words V4 V6 Ad
set_option linter.unusedVariables false
end Go.Proofs.Ytbonfmjalgfgaaa.Ci
/- The document's answers for layer 7: which may be, and their texts. -/
namespace Go.Proofs.Ytbonfmjalgfgaaa.Ci
set_option maxRecDepth 100000
open Go.ChangeShapes Go.WideShapes Go.ChangeAt Go.RowKit
open Dec Words V4 V6 Ad
set_option linter.unusedVariables false
theorem right_bits {n : Net} (hn : n.ok) (hm : makeB n.a n.n = true) : rightN n = true ↔ ∀ j, n.n.toNat ≤ j → j < bitsA n.a → bitN n.a j = 0 := by
  obtain ⟨h1, h2, h3⟩ := (makeB_iff _ _).1 hm
  rw [rightN_iff, first_bits h1 hn.1 (by omega)]
  exact ⟨fun h => h.2, fun h => ⟨hm, h⟩⟩
theorem right_no {n : Net} (h : makeB n.a n.n = false) : rightN n = false := by
  unfold rightN hasN; rw [h]; rfl
theorem bitN_two (a : Adr) (j : Nat) : bitN a j = 0 ∨ bitN a j = 1 := by unfold bitN; split <;> (try split) <;> omega
theorem bitA_in {a : Adr} {j : Nat} (h : j < bitsA a) : bitA a (j : Int) = (bitN a j : Nat) := by unfold bitA; rw [if_pos (by omega), Int.toNat_natCast]
end Go.Proofs.Ytbonfmjalgfgaaa.Ci

namespace Go.Proofs.Ytbonfmjalgfgaaa.Ci
set_option maxRecDepth 100000
open Go.ChangeShapes Go.WideShapes Go.ChangeAt Go.RowKit
open Dec Words V4 V6 Ad
set_option linter.unusedVariables false
theorem cat3 (a b : List UInt8) : Value.string (⟨a.toArray⟩ ++ ⟨#[47]⟩ ++ ⟨b.toArray⟩) = .string ⟨(a ++ 47 :: b).toArray⟩ := by
  show Value.string (⟨a.toArray⟩ ++ ⟨[47].toArray⟩ ++ ⟨b.toArray⟩) = _
  simp only [ByteArray.mk_append_mk]
  simp
end Go.Proofs.Ytbonfmjalgfgaaa.Ci
/- The document's Full for layer 7, over Make. -/
namespace Go.Proofs.Ytbonfmjalgfgaaa.Ci
set_option maxRecDepth 100000
open Go.ChangeShapes Go.WideShapes Go.ChangeAt Go.RowKit
open Dec Words V4 V6 Ad
set_option linter.unusedVariables false
end Go.Proofs.Ytbonfmjalgfgaaa.Ci
/- Contracts of the document's answers for layer 7: what needs no text. -/
namespace Go.Proofs.Ytbonfmjalgfgaaa.Ci
set_option maxRecDepth 100000
open Go.ChangeShapes Go.WideShapes Go.ChangeAt Go.RowKit
open Dec Words V4 V6 Ad
set_option linter.unusedVariables false
end Go.Proofs.Ytbonfmjalgfgaaa.Ci
namespace Go.Proofs.Ytbonfmjalgfgaaa.Ci
set_option maxRecDepth 100000
open Go.ChangeShapes Go.WideShapes Go.ChangeAt Go.RowKit
open Dec Words V4 V6 Ad
set_option linter.unusedVariables false
/-- Where the first slash at k or behind it stands; the end, if none does. -/
def atF (l : List UInt8) (k : Nat) : Nat := k + (pre (l.drop k)).length
theorem atF_end (l : List UInt8) : atF l l.length = l.length := by unfold atF; simp [pre]
theorem atF_le (l : List UInt8) {k : Nat} (h : k ≤ l.length) : atF l k ≤ l.length := by
  unfold atF
  have := pre_le (l.drop k)
  rw [List.length_drop] at this
  omega
theorem atF_hit {l : List UInt8} {k : Nat} (h : k < l.length) (e : l[k] = 47) : atF l k = k := by
  unfold atF
  rw [List.drop_eq_getElem_cons h, e]; simp [pre]
theorem atF_off {l : List UInt8} {k : Nat} (h : k < l.length) (e : l[k] ≠ 47) : atF l k = atF l (k + 1) := by
  unfold atF
  rw [List.drop_eq_getElem_cons h]
  have : pre (l[k] :: l.drop (k + 1)) = l[k] :: pre (l.drop (k + 1)) := by unfold pre; rw [List.takeWhile_cons, if_pos (by simpa using e)]
  rw [this, List.length_cons]; omega
theorem atF_zero (l : List UInt8) : atF l 0 = (pre l).length := by unfold atF; simp
theorem pre_take (l : List UInt8) : l.take (pre l).length = pre l := by
  unfold pre
  have h := List.takeWhile_append_dropWhile (p := fun b : UInt8 => b != 47) (l := l)
  conv => lhs; rw [← h]
  rw [List.takeWhile_append_dropWhile]
  conv => lhs; arg 2; rw [← h]
  exact List.take_left' rfl
theorem post_drop (l : List UInt8) : l.drop ((pre l).length + 1) = post l := by
  unfold pre post
  have h := List.takeWhile_append_dropWhile (p := fun b : UInt8 => b != 47) (l := l)
  rw [← List.drop_drop]
  congr 1
  conv => lhs; arg 2; rw [← h]
  exact List.drop_left' rfl
theorem slash_len (l : List UInt8) : (slash l = true → (pre l).length < l.length) ∧ (slash l = false → (pre l).length = l.length) := by
  have h := cut_pre l
  constructor
  · intro hs
    refine Nat.lt_of_le_of_ne (pre_le l) fun e => ?_
    have h2 := pre_take l
    rw [e, List.take_of_length_le (Nat.le_refl _)] at h2
    have hm : (47 : UInt8) ∈ l := by unfold slash at hs; simpa using hs
    rw [h2] at hm
    exact cut_parts 47 l (pre l) (by rw [h]; simp) hm
  · intro hs
    have hn : (47 : UInt8) ∉ l := by unfold slash at hs; simpa using hs
    rw [(pre_none hn).1]
theorem byte47 {l : List UInt8} {k : Nat} (h : k < l.length) (e : l[k] = 47) : ((l[k].toNat : Int) == 47) = true ∧ ((l[k].toNat : Int) != 47) = false := by rw [e]; decide
theorem byteno {l : List UInt8} {k : Nat} (h : k < l.length) (e : l[k] ≠ 47) : ((l[k].toNat : Int) == 47) = false ∧ ((l[k].toNat : Int) != 47) = true := by
  have : ¬ ((l[k].toNat : Int) = 47) := fun h2 => e (by
    have h3 : l[k].toNat = (47 : UInt8).toNat := by have : (47 : UInt8).toNat = 47 := rfl; omega
    exact UInt8.toNat_inj.1 h3)
  refine ⟨?_, ?_⟩
  · rw [beq_eq_false_iff_ne]; exact this
  · rw [bne_iff_ne]; exact this
end Go.Proofs.Ytbonfmjalgfgaaa.Ci
