/- Contracts of the document's answers for layer 7: what needs no text. -/
import Derived.Test.YtoanbaaonkckmaaDoorRef06All
import Derived.Test.YtoanbaaonkckmaaDoorCidr
namespace Go.Proofs.YtoanbaaonkckmaaDoor.Ci
set_option maxRecDepth 100000
open Go.ChangeShapes Go.WideShapes Go.ChangeAt Go.RowKit
open Dec Words V4 V6 Ad
set_option linter.unusedVariables false
/-- What the document's loop has of the first numbers behind k rounds. -/
def cutH (hi n k : Nat) : Nat := keep hi (64 - min k n)
def cutL (lo n k : Nat) : Nat := keep lo (64 - min k (n - 64))
theorem cut_on {x n k : Nat} (hk : k < 64) (h : k < n) : keep x (64 - min (k + 1) n) = keep x (64 - min k n) + x / 2 ^ (63 - k) % 2 * 2 ^ (63 - k) := by
  rw [show 64 - min (k + 1) n = 63 - k from by omega, show 64 - min k n = (63 - k) + 1 from by omega, keep_step x (63 - k)]
theorem cut_off' {x n k : Nat} (h : n ≤ k) : keep x (64 - min (k + 1) n) = keep x (64 - min k n) := by
  rw [show min (k + 1) n = min k n from by omega]
def half (k : Nat) : Nat := 9223372036854775808 / 2 ^ k
theorem half_lt {k : Nat} (hk : k < 64) : half k = 2 ^ (63 - k) := by
  unfold half
  rw [show (9223372036854775808 : Nat) = 2 ^ 63 from by decide, Nat.pow_div (by omega) (by omega)]
theorem half_pos {k : Nat} (hk : k < 64) : 0 < half k ∧ half k ≤ 9223372036854775808 := by
  refine ⟨by rw [half_lt hk]; exact Nat.two_pow_pos _, Nat.div_le_self _ _⟩
theorem half_next (k : Nat) : half k / 2 = half (k + 1) := by
  unfold half
  rw [Nat.div_div_eq_div_mul, Nat.pow_succ]
theorem cut_end_hi {hi n : Nat} : cutH hi n 64 = keep hi (64 - n) := by unfold cutH; congr 1; omega
theorem cut_end_lo {lo n : Nat} (h : lo < 18446744073709551616) (hn : n ≤ 128) : cutL lo n 64 = keep lo (128 - n) := by
  unfold cutL
  by_cases h64 : 64 ≤ n
  · congr 1; omega
  · rw [show 64 - min 64 (n - 64) = 64 from by omega, keep_low (r := 64) (by omega), keep_low (r := 128 - n) (Nat.lt_of_lt_of_le h (Nat.pow_le_pow_right (n := 2) (i := 64) (by omega) (by omega)))]
theorem odd_u64 {q : Nat} (h : q < 18446744073709551616) : (IntKind.u64.wrap (q : Int)).tmod 2 = ((q % 2 : Nat) : Int) := by
  rw [IntKind.wrap_u64, Int.emod_eq_of_lt (by omega) (by omega), Int.tmod_eq_emod_of_nonneg (by omega)]; rfl
theorem cut_ways {hi n k : Nat} (hk : k < 64) (h : hi < 18446744073709551616) :
    (k < n ∧ ((IntKind.u64.wrap ((hi : Int) / (half k : Int))).tmod 2 == 1) = true ∧ cutH hi n (k + 1) = cutH hi n k + half k ∧ cutH hi n k + half k ≤ 18446744073709551615) ∨
    (k < n ∧ ((IntKind.u64.wrap ((hi : Int) / (half k : Int))).tmod 2 == 1) = false ∧ cutH hi n (k + 1) = cutH hi n k) ∨ (¬ k < n ∧ cutH hi n (k + 1) = cutH hi n k) := by
  have hl := keep_le hi (64 - min (k + 1) n)
  have he : (IntKind.u64.wrap ((hi : Int) / (half k : Int))).tmod 2 = ((hi / half k % 2 : Nat) : Int) := by
    rw [← Int.natCast_ediv]; exact odd_u64 (Nat.lt_of_le_of_lt (Nat.div_le_self _ _) h)
  by_cases hn : k < n
  · have hs := cut_on (x := hi) hk hn
    rw [← half_lt hk] at hs
    unfold cutH
    rcases Nat.mod_two_eq_zero_or_one (hi / half k) with h0 | h1
    · refine .inr (.inl ⟨hn, by rw [he, h0]; rfl, by rw [hs, h0]; omega⟩)
    · rw [h1, Nat.one_mul] at hs
      refine .inl ⟨hn, by rw [he, h1]; rfl, hs, by rw [← hs]; omega⟩
  · exact .inr (.inr ⟨hn, cut_off' (by omega)⟩)
theorem cutL_ways {lo n k : Nat} (hk : k < 64) (h : lo < 18446744073709551616) :
    (k + 64 < n ∧ ((IntKind.u64.wrap ((lo : Int) / (half k : Int))).tmod 2 == 1) = true ∧ cutL lo n (k + 1) = cutL lo n k + half k ∧ cutL lo n k + half k ≤ 18446744073709551615) ∨
    (k + 64 < n ∧ ((IntKind.u64.wrap ((lo : Int) / (half k : Int))).tmod 2 == 1) = false ∧ cutL lo n (k + 1) = cutL lo n k) ∨ (¬ k + 64 < n ∧ cutL lo n (k + 1) = cutL lo n k) := by
  rcases cut_ways (hi := lo) (n := n - 64) hk h with ⟨a, b, c, d⟩ | ⟨a, b, c⟩ | ⟨a, c⟩
  · exact .inl ⟨by omega, b, c, d⟩
  · exact .inr (.inl ⟨by omega, b, c⟩)
  · exact .inr (.inr ⟨by omega, c⟩)
set_option maxHeartbeats 4000000 in
theorem rcut_any (hi lo n : Nat) (w : World) (h1 : hi < 18446744073709551616) (h2 : lo < 18446744073709551616) (hn : n ≤ 128) :
    Calls Tryd.prog 32 #[.int .u64 hi, .int .u64 lo, .int .i64 (n : Nat)] w fun e w' => e = .returned (.tuple #[.int .u64 (keep hi (64 - n) : Nat), .int .u64 (keep lo (128 - n) : Nat)]) ∧ w = w' := by
  have EH := Lib.hid (cut_end_hi (hi := hi) (n := n))
  have EL := Lib.hid (cut_end_lo h2 hn)
  have H2 := Lib.hid h2
  have H1 := Lib.hid h1
  go_enter Tryd.func32, Tryd.ntmps32
  go_wp2_with fail
  go_loop [8, 9, 10, 11] (fun a b h i => ∃ k : Nat, k ≤ 64 ∧ i = .int .i64 k ∧ h = .int .u64 (half k : Nat) ∧ a = .int .u64 (cutH hi n k : Nat) ∧ b = .int .u64 (cutL lo n k : Nat)) (fun _ _ _ i => 64 - (intOf i).toNat)
  case atStart => exact ⟨0, by omega, rfl, rfl, by unfold cutH; rw [keep_low (by have := h1; simp; omega)]; rfl, by unfold cutL; rw [keep_low (by have := h2; simp; omega)]; rfl⟩
  case round =>
    obtain ⟨k, hk, rfl, rfl, rfl, rfl⟩ := hrel
    by_cases hlt : k < 64
    · obtain ⟨p1, p2⟩ := half_pos hlt
      have HN := Lib.hid (half_next k)
      have c1 : cutH hi n k ≤ 18446744073709551615 := by have := keep_le hi (64 - min k n); have := H1.out; unfold cutH; omega
      have c2 : cutL lo n k ≤ 18446744073709551615 := by have := keep_le lo (64 - min k (n - 64)); have := H2.out; unfold cutL; omega
      rcases cut_ways (hi := hi) (n := n) hlt H1.out with ⟨g1, g2, g3, g4⟩ | ⟨g1, g2, g3⟩ | ⟨g1, g3⟩
      all_goals have HA := Lib.hid g3
      all_goals clear g3
      all_goals (rcases cutL_ways (n := n) hlt H2.out with ⟨e1, e2, e3, e4⟩ | ⟨e1, e2, e3⟩ | ⟨e1, e3⟩)
      all_goals have HB := Lib.hid e3
      all_goals clear e3
      all_goals go_wp2_with fail
      all_goals
        go_round
        case rel => exact ⟨k + 1, by omega, by go_num, by rw [← HN.out]; go_num, by rw [HA.out] <;> go_num, by rw [HB.out] <;> go_num⟩
        case measure => simp [intOf]; omega
    · obtain rfl : k = 64 := by omega
      rw [EH.out, EL.out]
      go_wp2_with fail
      go_ret2
      exact ⟨rfl, rfl⟩
end Go.Proofs.YtoanbaaonkckmaaDoor.Ci
