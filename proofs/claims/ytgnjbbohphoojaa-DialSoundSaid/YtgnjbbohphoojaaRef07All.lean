/- The document's answers for layer 7: what is cut, masked, made. -/
import Derived.Test.YtgnjbbohphoojaaRef06All
import Derived.Test.YtgnjbbohphoojaaCidrAll
import Derived.Test.YtgnjbbohphoojaaKit
namespace Go.Proofs.Ytgnjbbohphoojaa.Ci
set_option maxRecDepth 100000
open Go.ChangeShapes Go.WideShapes Go.ChangeAt Go.RowKit
open Dec Words V4 V6 Ad
set_option linter.unusedVariables false
/-- What the document's loop has of the first numbers behind k rounds. -/
def cutH (hi n k : Nat) : Nat := keep hi (64 - min k n)
def cutL (lo n k : Nat) : Nat := keep lo (64 - min k (n - 64))
theorem cut_on {x n k : Nat} (hk : k < 64) (h : k < n) : keep x (64 - min (k + 1) n) = keep x (64 - min k n) + x / 2 ^ (63 - k) % 2 * 2 ^ (63 - k) := by
  rw [show 64 - min (k + 1) n = 63 - k from by omega, show 64 - min k n = (63 - k) + 1 from by omega, keep_step x (63 - k)]
theorem cut_off' {x n k : Nat} (h : n ≤ k) : keep x (64 - min (k + 1) n) = keep x (64 - min k n) := by
  rw [show min (k + 1) n = min k n from by omega]
def half (k : Nat) : Nat := 9223372036854775808 / 2 ^ k
theorem half_lt {k : Nat} (hk : k < 64) : half k = 2 ^ (63 - k) := by
  unfold half
  rw [show (9223372036854775808 : Nat) = 2 ^ 63 from by decide, Nat.pow_div (by omega) (by omega)]
theorem half_pos {k : Nat} (hk : k < 64) : 0 < half k ∧ half k ≤ 9223372036854775808 := by
  refine ⟨by rw [half_lt hk]; exact Nat.two_pow_pos _, Nat.div_le_self _ _⟩
theorem half_next (k : Nat) : half k / 2 = half (k + 1) := by
  unfold half
  rw [Nat.div_div_eq_div_mul, Nat.pow_succ]
theorem cut_end_hi {hi n : Nat} : cutH hi n 64 = keep hi (64 - n) := by unfold cutH; congr 1; omega
theorem cut_end_lo {lo n : Nat} (h : lo < 18446744073709551616) (hn : n ≤ 128) : cutL lo n 64 = keep lo (128 - n) := by
  unfold cutL
  by_cases h64 : 64 ≤ n
  · congr 1; omega
  · rw [show 64 - min 64 (n - 64) = 64 from by omega, keep_low (r := 64) (by omega), keep_low (r := 128 - n) (Nat.lt_of_lt_of_le h (Nat.pow_le_pow_right (n := 2) (i := 64) (by omega) (by omega)))]
theorem odd_u64 {q : Nat} (h : q < 18446744073709551616) : (IntKind.u64.wrap (q : Int)).tmod 2 = ((q % 2 : Nat) : Int) := by
  rw [IntKind.wrap_u64, Int.emod_eq_of_lt (by omega) (by omega), Int.tmod_eq_emod_of_nonneg (by omega)]; rfl
theorem cut_ways {hi n k : Nat} (hk : k < 64) (h : hi < 18446744073709551616) :
    (k < n ∧ ((IntKind.u64.wrap ((hi : Int) / (half k : Int))).tmod 2 == 1) = true ∧ cutH hi n (k + 1) = cutH hi n k + half k ∧ cutH hi n k + half k ≤ 18446744073709551615) ∨
    (k < n ∧ ((IntKind.u64.wrap ((hi : Int) / (half k : Int))).tmod 2 == 1) = false ∧ cutH hi n (k + 1) = cutH hi n k) ∨ (¬ k < n ∧ cutH hi n (k + 1) = cutH hi n k) := by
  have hl := keep_le hi (64 - min (k + 1) n)
  have he : (IntKind.u64.wrap ((hi : Int) / (half k : Int))).tmod 2 = ((hi / half k % 2 : Nat) : Int) := by
    rw [← Int.natCast_ediv]; exact odd_u64 (Nat.lt_of_le_of_lt (Nat.div_le_self _ _) h)
  by_cases hn : k < n
  · have hs := cut_on (x := hi) hk hn
    rw [← half_lt hk] at hs
    unfold cutH
    rcases Nat.mod_two_eq_zero_or_one (hi / half k) with h0 | h1
    · refine .inr (.inl ⟨hn, by rw [he, h0]; rfl, by rw [hs, h0]; omega⟩)
    · rw [h1, Nat.one_mul] at hs
      refine .inl ⟨hn, by rw [he, h1]; rfl, hs, by rw [← hs]; omega⟩
  · exact .inr (.inr ⟨hn, cut_off' (by omega)⟩)
theorem cutL_ways {lo n k : Nat} (hk : k < 64) (h : lo < 18446744073709551616) :
    (k + 64 < n ∧ ((IntKind.u64.wrap ((lo : Int) / (half k : Int))).tmod 2 == 1) = true ∧ cutL lo n (k + 1) = cutL lo n k + half k ∧ cutL lo n k + half k ≤ 18446744073709551615) ∨
    (k + 64 < n ∧ ((IntKind.u64.wrap ((lo : Int) / (half k : Int))).tmod 2 == 1) = false ∧ cutL lo n (k + 1) = cutL lo n k) ∨ (¬ k + 64 < n ∧ cutL lo n (k + 1) = cutL lo n k) := by
  rcases cut_ways (hi := lo) (n := n - 64) hk h with ⟨a, b, c, d⟩ | ⟨a, b, c⟩ | ⟨a, c⟩
  · exact .inl ⟨by omega, b, c, d⟩
  · exact .inr (.inl ⟨by omega, b, c⟩)
  · exact .inr (.inr ⟨by omega, c⟩)
set_option maxHeartbeats 4000000 in
theorem rcut_any (hi lo n : Nat) (w : World) (h1 : hi < 18446744073709551616) (h2 : lo < 18446744073709551616) (hn : n ≤ 128) :
    Calls Try.prog 47 #[.int .u64 hi, .int .u64 lo, .int .i64 (n : Nat)] w fun e w' => e = .returned (.tuple #[.int .u64 (keep hi (64 - n) : Nat), .int .u64 (keep lo (128 - n) : Nat)]) ∧ w = w' := by
  have EH := Lib.hid (cut_end_hi (hi := hi) (n := n))
  have EL := Lib.hid (cut_end_lo h2 hn)
  have H2 := Lib.hid h2
  have H1 := Lib.hid h1
  go_enter Try.func47, Try.ntmps47
  go_wp2_with fail
  go_loop [8, 9, 10, 11] (fun a b h i => ∃ k : Nat, k ≤ 64 ∧ i = .int .i64 k ∧ h = .int .u64 (half k : Nat) ∧ a = .int .u64 (cutH hi n k : Nat) ∧ b = .int .u64 (cutL lo n k : Nat)) (fun _ _ _ i => 64 - (intOf i).toNat)
  case atStart => exact ⟨0, by omega, rfl, rfl, by unfold cutH; rw [keep_low (by have := h1; simp; omega)]; rfl, by unfold cutL; rw [keep_low (by have := h2; simp; omega)]; rfl⟩
  case round =>
    obtain ⟨k, hk, rfl, rfl, rfl, rfl⟩ := hrel
    by_cases hlt : k < 64
    · obtain ⟨p1, p2⟩ := half_pos hlt
      have HN := Lib.hid (half_next k)
      have c1 : cutH hi n k ≤ 18446744073709551615 := by have := keep_le hi (64 - min k n); have := H1.out; unfold cutH; omega
      have c2 : cutL lo n k ≤ 18446744073709551615 := by have := keep_le lo (64 - min k (n - 64)); have := H2.out; unfold cutL; omega
      rcases cut_ways (hi := hi) (n := n) hlt H1.out with ⟨g1, g2, g3, g4⟩ | ⟨g1, g2, g3⟩ | ⟨g1, g3⟩
      all_goals have HA := Lib.hid g3
      all_goals clear g3
      all_goals (rcases cutL_ways (n := n) hlt H2.out with ⟨e1, e2, e3, e4⟩ | ⟨e1, e2, e3⟩ | ⟨e1, e3⟩)
      all_goals have HB := Lib.hid e3
      all_goals clear e3
      all_goals go_wp2_with fail
      all_goals
        go_round
        case rel => exact ⟨k + 1, by omega, by go_num, by rw [← HN.out]; go_num, by rw [HA.out] <;> go_num, by rw [HB.out] <;> go_num⟩
        case measure => simp [intOf]; omega
    · obtain rfl : k = 64 := by omega
      rw [EH.out, EL.out]
      go_wp2_with fail
      go_ret2
      exact ⟨rfl, rfl⟩
end Go.Proofs.Ytgnjbbohphoojaa.Ci

namespace Go.Proofs.Ytgnjbbohphoojaa.Ci
set_option maxRecDepth 100000
open Go.ChangeShapes Go.WideShapes Go.ChangeAt Go.RowKit
open Dec Words V4 V6 Ad
set_option linter.unusedVariables false
theorem mask_six {hi lo k : Nat} {i : Int} (hr : rightA ⟨true, hi, lo⟩ = true) (hk : k = min i.toNat 128) : maskA ⟨true, hi, lo⟩ i = ⟨true, keep hi (64 - k), keep lo (128 - k)⟩ := by
  unfold maskA
  rw [if_pos hr, show bitsA ⟨true, hi, lo⟩ = 128 from rfl, ← hk]
  unfold firstA
  rw [show bitsA ⟨true, hi, lo⟩ = 128 from rfl]
  simp only []
  rw [show 128 - k - 64 = 64 - k from by omega]
theorem mask_four {lo k : Nat} {i : Int} (hr : rightA ⟨false, 0, lo⟩ = true) (hk : k = min i.toNat 32) : maskA ⟨false, 0, lo⟩ i = ⟨false, 0, keep lo (128 - (96 + k))⟩ := by
  unfold maskA
  rw [if_pos hr, show bitsA ⟨false, 0, lo⟩ = 32 from rfl, ← hk]
  unfold firstA
  rw [show bitsA ⟨false, 0, lo⟩ = 32 from rfl]
  simp only []
  rw [keep_nil, show 32 - k = 128 - (96 + k) from by omega]
set_option maxHeartbeats 4000000 in
theorem rmask_any (a : Adr) (i : Int) (w : World) (ha : a.ok) (h1 : -9223372036854775808 ≤ i) (h2 : i ≤ 9223372036854775807) :
    Calls Try.prog 33 #[.agg #[.bool a.v6, .int .u64 a.hi, .int .u64 a.lo], .int .i64 i] w fun e w' => e = .returned (.agg #[.bool (maskA a i).v6, .int .u64 (maskA a i).hi, .int .u64 (maskA a i).lo]) ∧ Below w.heap.size w w' := by
  have RI := Lib.hid (fun W => rright_any a W ha)
  cases hr : rightA a
  · have E : maskA a i = ⟨false, 0, 0⟩ := by unfold maskA; rw [hr]; rfl
    rw [E]
    clear E
    simp only []
    rw [hr] at RI
    clear hr
    go_enter Try.func33, Try.ntmps33
    go_wp2_with fail
    refine (RI.out _).mono ?_
    rintro e w1 ⟨rfl, hb1⟩
    obtain ⟨hc, hf⟩ := old hb1
    go_wp2_with fail
    exact bodyPost_ret (v := .agg #[.bool false, .int .u64 0, .int .u64 0]) (by simp [results, Try.results33, go_sem, hc]) rfl ⟨rfl, ((((two_low _ _ _).trans (hb1.mono (by simp; omega))).setCell (by simp) _).setCell (by simp) _).setCell (by simp) _⟩
  · obtain ⟨v, hi, lo⟩ := a
    obtain ⟨ha1, ha2⟩ := ha
    simp only [] at ha1 ha2
    cases v
    · have hhi : hi = 0 := by unfold rightA at hr; simp at hr; exact hr.1
      subst hhi
      have BI := Lib.hid (rbits_is ⟨false, 0, lo⟩ (n := 32) rfl)
      by_cases hi0 : i < 0
      · have E := mask_four (k := 0) (i := i) hr (by omega)
        rw [E]
        clear E
        simp only []
        have CU : Hid (∀ W, Calls Try.prog 47 #[.int .u64 0, .int .u64 lo, .int .i64 96] W fun e w' => e = .returned (.tuple #[.int .u64 (keep 0 (64 - 96) : Nat), .int .u64 (keep lo (128 - 96) : Nat)]) ∧ W = w') := Lib.hid fun W => rcut_any 0 lo 96 W (by omega) ha2 (by omega)
        rw [hr] at RI
        clear hr
        go_enter Try.func33, Try.ntmps33
        go_wp2_with fail
        refine (RI.out _).mono ?_
        rintro e w1 ⟨rfl, hb1⟩
        obtain ⟨hc, hf⟩ := old hb1
        go_wp2_with fail
        refine (BI.out _).mono ?_
        rintro e w2 ⟨rfl, hb2⟩
        have hb12 := low_trans hb1 hb2
        clear hc hf
        obtain ⟨hc, hf⟩ := old hb12
        go_wp2_with fail
        refine (CU.out _).mono ?_
        rintro e w4 ⟨rfl, rfl⟩
        go_wp2_with fail
        exact bodyPost_ret (v := .agg #[.bool false, .int .u64 0, .int .u64 (keep lo (128 - (96 + 0)) : Nat)]) (by simp [results, Try.results33, go_sem, hc]) rfl ⟨rfl, ((((two_low _ _ _).trans (hb12.mono (by simp; omega))).setCell (by simp) _).setCell (by simp) _).setCell (by simp) _⟩
      · by_cases hi1 : 32 < i
        · have E := mask_four (k := 32) (i := i) hr (by omega)
          rw [E]
          clear E
          simp only []
          have CU : Hid (∀ W, Calls Try.prog 47 #[.int .u64 0, .int .u64 lo, .int .i64 128] W fun e w' => e = .returned (.tuple #[.int .u64 (keep 0 (64 - 128) : Nat), .int .u64 (keep lo (128 - 128) : Nat)]) ∧ W = w') := Lib.hid fun W => rcut_any 0 lo 128 W (by omega) ha2 (by omega)
          rw [hr] at RI
          clear hr
          go_enter Try.func33, Try.ntmps33
          go_wp2_with fail
          refine (RI.out _).mono ?_
          rintro e w1 ⟨rfl, hb1⟩
          obtain ⟨hc, hf⟩ := old hb1
          go_wp2_with fail
          refine (BI.out _).mono ?_
          rintro e w2 ⟨rfl, hb2⟩
          have hb12 := low_trans hb1 hb2
          clear hc hf
          obtain ⟨hc, hf⟩ := old hb12
          go_wp2_with fail
          refine (BI.out _).mono ?_
          rintro e w3 ⟨rfl, hb3⟩
          have hb13 := low_trans hb12 hb3
          clear hc hf
          obtain ⟨hc, hf⟩ := old hb13
          go_wp2_with fail
          refine (CU.out _).mono ?_
          rintro e w4 ⟨rfl, rfl⟩
          go_wp2_with fail
          exact bodyPost_ret (v := .agg #[.bool false, .int .u64 0, .int .u64 (keep lo (128 - (96 + 32)) : Nat)]) (by simp [results, Try.results33, go_sem, hc]) rfl ⟨rfl, ((((two_low _ _ _).trans (hb13.mono (by simp; omega))).setCell (by simp) _).setCell (by simp) _).setCell (by simp) _⟩
        · obtain ⟨k, rfl⟩ := Int.eq_ofNat_of_zero_le (Int.not_lt.1 hi0)
          have hk : k ≤ 32 := by omega
          clear hi0 hi1
          have E := mask_four (k := k) (i := (k : Int)) hr (by omega)
          rw [E]
          clear E
          simp only []
          have CU : Hid (∀ W, Calls Try.prog 47 #[.int .u64 0, .int .u64 lo, .int .i64 (96 + (k : Int))] W fun e w' => e = .returned (.tuple #[.int .u64 (keep 0 (64 - (96 + k)) : Nat), .int .u64 (keep lo (128 - (96 + k)) : Nat)]) ∧ W = w') := Lib.hid fun W => by rw [show (96 + (k : Int)) = ((96 + k : Nat) : Int) from by omega]; exact rcut_any 0 lo (96 + k) W (by omega) ha2 (by omega)
          rw [hr] at RI
          clear hr
          go_enter Try.func33, Try.ntmps33
          go_wp2_with fail
          refine (RI.out _).mono ?_
          rintro e w1 ⟨rfl, hb1⟩
          obtain ⟨hc, hf⟩ := old hb1
          go_wp2_with fail
          refine (BI.out _).mono ?_
          rintro e w2 ⟨rfl, hb2⟩
          have hb12 := low_trans hb1 hb2
          clear hc hf
          obtain ⟨hc, hf⟩ := old hb12
          go_wp2_with fail
          refine (CU.out _).mono ?_
          rintro e w4 ⟨rfl, rfl⟩
          go_wp2_with fail
          exact bodyPost_ret (v := .agg #[.bool false, .int .u64 0, .int .u64 (keep lo (128 - (96 + k)) : Nat)]) (by simp [results, Try.results33, go_sem, hc]) rfl ⟨rfl, ((((two_low _ _ _).trans (hb12.mono (by simp; omega))).setCell (by simp) _).setCell (by simp) _).setCell (by simp) _⟩
    · have BI := Lib.hid (rbits_is ⟨true, hi, lo⟩ (n := 128) rfl)
      by_cases hi0 : i < 0
      · have E := mask_six (k := 0) (i := i) hr (by omega)
        rw [E]
        clear E
        simp only []
        have CU : Hid (∀ W, Calls Try.prog 47 #[.int .u64 hi, .int .u64 lo, .int .i64 0] W fun e w' => e = .returned (.tuple #[.int .u64 (keep hi (64 - 0) : Nat), .int .u64 (keep lo (128 - 0) : Nat)]) ∧ W = w') := Lib.hid fun W => rcut_any hi lo 0 W (by omega) ha2 (by omega)
        rw [hr] at RI
        clear hr
        go_enter Try.func33, Try.ntmps33
        go_wp2_with fail
        refine (RI.out _).mono ?_
        rintro e w1 ⟨rfl, hb1⟩
        obtain ⟨hc, hf⟩ := old hb1
        go_wp2_with fail
        refine (BI.out _).mono ?_
        rintro e w2 ⟨rfl, hb2⟩
        have hb12 := low_trans hb1 hb2
        clear hc hf
        obtain ⟨hc, hf⟩ := old hb12
        go_wp2_with fail
        refine (CU.out _).mono ?_
        rintro e w4 ⟨rfl, rfl⟩
        go_wp2_with fail
        exact bodyPost_ret (v := .agg #[.bool true, .int .u64 (keep hi (64 - 0) : Nat), .int .u64 (keep lo (128 - 0) : Nat)]) (by simp [results, Try.results33, go_sem, hc]) rfl ⟨rfl, ((((two_low _ _ _).trans (hb12.mono (by simp; omega))).setCell (by simp) _).setCell (by simp) _).setCell (by simp) _⟩
      · by_cases hi1 : 128 < i
        · have E := mask_six (k := 128) (i := i) hr (by omega)
          rw [E]
          clear E
          simp only []
          have CU : Hid (∀ W, Calls Try.prog 47 #[.int .u64 hi, .int .u64 lo, .int .i64 128] W fun e w' => e = .returned (.tuple #[.int .u64 (keep hi (64 - 128) : Nat), .int .u64 (keep lo (128 - 128) : Nat)]) ∧ W = w') := Lib.hid fun W => rcut_any hi lo 128 W (by omega) ha2 (by omega)
          rw [hr] at RI
          clear hr
          go_enter Try.func33, Try.ntmps33
          go_wp2_with fail
          refine (RI.out _).mono ?_
          rintro e w1 ⟨rfl, hb1⟩
          obtain ⟨hc, hf⟩ := old hb1
          go_wp2_with fail
          refine (BI.out _).mono ?_
          rintro e w2 ⟨rfl, hb2⟩
          have hb12 := low_trans hb1 hb2
          clear hc hf
          obtain ⟨hc, hf⟩ := old hb12
          go_wp2_with fail
          refine (BI.out _).mono ?_
          rintro e w3 ⟨rfl, hb3⟩
          have hb13 := low_trans hb12 hb3
          clear hc hf
          obtain ⟨hc, hf⟩ := old hb13
          go_wp2_with fail
          refine (CU.out _).mono ?_
          rintro e w4 ⟨rfl, rfl⟩
          go_wp2_with fail
          exact bodyPost_ret (v := .agg #[.bool true, .int .u64 (keep hi (64 - 128) : Nat), .int .u64 (keep lo (128 - 128) : Nat)]) (by simp [results, Try.results33, go_sem, hc]) rfl ⟨rfl, ((((two_low _ _ _).trans (hb13.mono (by simp; omega))).setCell (by simp) _).setCell (by simp) _).setCell (by simp) _⟩
        · obtain ⟨k, rfl⟩ := Int.eq_ofNat_of_zero_le (Int.not_lt.1 hi0)
          have hk : k ≤ 128 := by omega
          clear hi0 hi1
          have E := mask_six (k := k) (i := (k : Int)) hr (by omega)
          rw [E]
          clear E
          simp only []
          have CU : Hid (∀ W, Calls Try.prog 47 #[.int .u64 hi, .int .u64 lo, .int .i64 (k : Int)] W fun e w' => e = .returned (.tuple #[.int .u64 (keep hi (64 - k) : Nat), .int .u64 (keep lo (128 - k) : Nat)]) ∧ W = w') := Lib.hid fun W => rcut_any hi lo k W (by omega) ha2 (by omega)
          rw [hr] at RI
          clear hr
          go_enter Try.func33, Try.ntmps33
          go_wp2_with fail
          refine (RI.out _).mono ?_
          rintro e w1 ⟨rfl, hb1⟩
          obtain ⟨hc, hf⟩ := old hb1
          go_wp2_with fail
          refine (BI.out _).mono ?_
          rintro e w2 ⟨rfl, hb2⟩
          have hb12 := low_trans hb1 hb2
          clear hc hf
          obtain ⟨hc, hf⟩ := old hb12
          go_wp2_with fail
          refine (CU.out _).mono ?_
          rintro e w4 ⟨rfl, rfl⟩
          go_wp2_with fail
          exact bodyPost_ret (v := .agg #[.bool true, .int .u64 (keep hi (64 - k) : Nat), .int .u64 (keep lo (128 - k) : Nat)]) (by simp [results, Try.results33, go_sem, hc]) rfl ⟨rfl, ((((two_low _ _ _).trans (hb12.mono (by simp; omega))).setCell (by simp) _).setCell (by simp) _).setCell (by simp) _⟩
end Go.Proofs.Ytgnjbbohphoojaa.Ci

namespace Go.Proofs.Ytgnjbbohphoojaa.Ci
set_option maxRecDepth 100000
open Go.ChangeShapes Go.WideShapes Go.ChangeAt Go.RowKit
open Dec Words V4 V6 Ad
set_option linter.unusedVariables false
set_option maxHeartbeats 2000000 in
theorem rmake_any (a : Adr) (i : Int) (w : World) (ha : a.ok) (h1 : -9223372036854775808 ≤ i) (h2 : i ≤ 9223372036854775807) :
    Calls Try.prog 22 #[.agg #[.bool a.v6, .int .u64 a.hi, .int .u64 a.lo], .int .i64 i] w fun e w' => e = .returned (.tuple #[.agg #[.bool (makeN a i).a.v6, .int .u64 (makeN a i).a.hi, .int .u64 (makeN a i).a.lo, .int .i64 (makeN a i).n], .bool (makeB a i)]) ∧ Below w.heap.size w w' := by
  have RI := Lib.hid (fun W => rright_any a W ha)
  have BI := Lib.hid (fun W => rbits_any a W)
  have hb := bitsA_two a
  cases hr : rightA a
  · have EB : makeB a i = false := by rw [← Bool.not_eq_true, makeB_iff]; simp [hr]; try omega
    have E : makeN a i = zero := by unfold makeN; rw [EB]; rfl
    rw [E, EB]
    clear E EB
    simp only [zero]
    rw [hr] at RI
    clear hr hb
    go_enter Try.func22, Try.ntmps22
    go_wp2_with fail
    refine (RI.out _).mono ?_
    rintro e w1 ⟨rfl, hb1⟩
    obtain ⟨hc, hf⟩ := old hb1
    go_wp2_with fail
    exact bodyPost_ret (v := .tuple #[.agg #[.bool false, .int .u64 0, .int .u64 0, .int .i64 0], .bool false]) (by simp [results, Try.results22, go_sem, hc]) rfl ⟨rfl, (((((two_low _ _ _).trans (hb1.mono (by simp; omega))).setCell (by simp) _).setCell (by simp) _).setCell (by simp) _).setCell (by simp) _⟩
  · by_cases hi : i < 0
    · have EB : makeB a i = false := by rw [← Bool.not_eq_true, makeB_iff]; simp [hr]; try omega
      have E : makeN a i = zero := by unfold makeN; rw [EB]; rfl
      rw [E, EB]
      clear E EB
      simp only [zero]
      rw [hr] at RI
      clear hr hb
      go_enter Try.func22, Try.ntmps22
      go_wp2_with fail
      refine (RI.out _).mono ?_
      rintro e w1 ⟨rfl, hb1⟩
      obtain ⟨hc, hf⟩ := old hb1
      go_wp2_with fail
      exact bodyPost_ret (v := .tuple #[.agg #[.bool false, .int .u64 0, .int .u64 0, .int .i64 0], .bool false]) (by simp [results, Try.results22, go_sem, hc]) rfl ⟨rfl, (((((two_low _ _ _).trans (hb1.mono (by simp; omega))).setCell (by simp) _).setCell (by simp) _).setCell (by simp) _).setCell (by simp) _⟩
    · by_cases hk : (bitsA a : Int) < i
      · have EB : makeB a i = false := by rw [← Bool.not_eq_true, makeB_iff]; simp [hr]; try omega
        have E : makeN a i = zero := by unfold makeN; rw [EB]; rfl
        rw [E, EB]
        clear E EB
        simp only [zero]
        rw [hr] at RI
        clear hr hb
        go_enter Try.func22, Try.ntmps22
        go_wp2_with fail
        refine (RI.out _).mono ?_
        rintro e w1 ⟨rfl, hb1⟩
        obtain ⟨hc, hf⟩ := old hb1
        go_wp2_with fail
        refine (BI.out _).mono ?_
        rintro e w2 ⟨rfl, hb2⟩
        have hb12 := low_trans hb1 hb2
        clear hc hf
        obtain ⟨hc, hf⟩ := old hb12
        go_wp2_with fail
        exact bodyPost_ret (v := .tuple #[.agg #[.bool false, .int .u64 0, .int .u64 0, .int .i64 0], .bool false]) (by simp [results, Try.results22, go_sem, hc]) rfl ⟨rfl, (((((two_low _ _ _).trans (hb12.mono (by simp; omega))).setCell (by simp) _).setCell (by simp) _).setCell (by simp) _).setCell (by simp) _⟩
      · obtain ⟨k, rfl⟩ := Int.eq_ofNat_of_zero_le (Int.not_lt.1 hi)
        have hk' : k ≤ bitsA a := by omega
        have EB : makeB a (k : Int) = true := (makeB_iff _ _).2 ⟨hr, by omega, by omega⟩
        have E : makeN a (k : Int) = ⟨firstA a k, (k : Int)⟩ := by unfold makeN; rw [EB]; rfl
        rw [E, EB]
        clear E EB
        simp only []
        have FM : maskA a (k : Int) = firstA a k := by unfold maskA; rw [if_pos hr, Int.toNat_natCast, Nat.min_eq_left hk']
        have FI := Lib.hid (fun W => rmask_any a (k : Int) W ha (by omega) (by omega))
        rw [FM] at FI
        clear FM
        rw [hr] at RI
        clear hr hi hk
        have hk9 : k ≤ 128 := by omega
        clear hb
        go_enter Try.func22, Try.ntmps22
        go_wp2_with fail
        refine (RI.out _).mono ?_
        rintro e w1 ⟨rfl, hb1⟩
        obtain ⟨hc, hf⟩ := old hb1
        go_wp2_with fail
        refine (BI.out _).mono ?_
        rintro e w2 ⟨rfl, hb2⟩
        have hb12 := low_trans hb1 hb2
        clear hc hf
        obtain ⟨hc, hf⟩ := old hb12
        go_wp2_with fail
        refine (FI.out _).mono ?_
        rintro e w3 ⟨rfl, hb3⟩
        have hb13 := low_trans hb12 hb3
        clear hc hf
        obtain ⟨hc, hf⟩ := old hb13
        go_wp2_with fail
        exact bodyPost_ret (v := .tuple #[.agg #[.bool (firstA a k).v6, .int .u64 (firstA a k).hi, .int .u64 (firstA a k).lo, .int .i64 (k : Nat)], .bool true]) (by simp [results, Try.results22, go_sem, hc]) rfl ⟨rfl, (((((two_low _ _ _).trans (hb13.mono (by simp; omega))).setCell (by simp) _).setCell (by simp) _).setCell (by simp) _).setCell (by simp) _⟩
end Go.Proofs.Ytgnjbbohphoojaa.Ci
/- The document's answers for layer 7: which may be, and their texts. -/
namespace Go.Proofs.Ytgnjbbohphoojaa.Ci
set_option maxRecDepth 100000
open Go.ChangeShapes Go.WideShapes Go.ChangeAt Go.RowKit
open Dec Words V4 V6 Ad
set_option linter.unusedVariables false
theorem right_bits {n : Net} (hn : n.ok) (hm : makeB n.a n.n = true) : rightN n = true ↔ ∀ j, n.n.toNat ≤ j → j < bitsA n.a → bitN n.a j = 0 := by
  obtain ⟨h1, h2, h3⟩ := (makeB_iff _ _).1 hm
  rw [rightN_iff, first_bits h1 hn.1 (by omega)]
  exact ⟨fun h => h.2, fun h => ⟨hm, h⟩⟩
theorem right_no {n : Net} (h : makeB n.a n.n = false) : rightN n = false := by
  unfold rightN hasN; rw [h]; rfl
theorem bitN_two (a : Adr) (j : Nat) : bitN a j = 0 ∨ bitN a j = 1 := by unfold bitN; split <;> (try split) <;> omega
theorem bitA_in {a : Adr} {j : Nat} (h : j < bitsA a) : bitA a (j : Int) = (bitN a j : Nat) := by unfold bitA; rw [if_pos (by omega), Int.toNat_natCast]
set_option maxHeartbeats 4000000 in
theorem rrightN_A (n : Net) (w : World) (hn : n.ok) (hr : rightA n.a = false) :
    Calls Try.prog 32 #[.agg #[.bool n.a.v6, .int .u64 n.a.hi, .int .u64 n.a.lo, .int .i64 n.n]] w fun e w' => e = .returned (.bool (rightN n)) ∧ Below w.heap.size w w' := by
  have K1 : Hid (∀ W, ST n w W → Calls Try.prog 19 #[.agg #[.bool n.a.v6, .int .u64 n.a.hi, .int .u64 n.a.lo]] W fun e w' => e = .returned (.bool (rightA n.a)) ∧ ST n w w') := Lib.hid fun W h => (rright_any n.a W hn.1).mono fun e w' ⟨he, hb⟩ => ⟨he, ST.of (low_trans h.2.2.2.2 hb)⟩
  have K2 : Hid (∀ W, ST n w W → Calls Try.prog 23 #[.agg #[.bool n.a.v6, .int .u64 n.a.hi, .int .u64 n.a.lo]] W fun e w' => e = .returned (.int .i64 (bitsA n.a : Nat)) ∧ ST n w w') := Lib.hid fun W h => (rbits_any n.a W).mono fun e w' ⟨he, hb⟩ => ⟨he, ST.of (low_trans h.2.2.2.2 hb)⟩
  have JD : Hid (∀ W, ST n w W → ST n w W.drew) := Lib.hid fun W h => ST.of (low_drewN h.2.2.2.2 1)
  have JA : Hid (∀ W o, ST n w W → ST n w (W.alloc o)) := Lib.hid fun W o h => ST.of (Below.alloc h.2.2.2.2 h.2.2.2.2.size o)
  have E := Lib.hid (right_no (n := n) (by rw [← Bool.not_eq_true, makeB_iff]; simp [hr]))
  rw [hr] at K1
  clear hr
  have hS0 : ST n w (w.alloc (.cells #[.bool n.a.v6, .int .u64 n.a.hi, .int .u64 n.a.lo, .int .i64 n.n] 43)) := ST.of (Below.refl _ _)
  obtain ⟨k0, k1, k2, k3, hs⟩ := id hS0
  go_enter Try.func32, Try.ntmps32
  go_wp2_with fail
  have hne : Nonempty (Cls (ST n w)) := ⟨⟨_, hS0⟩⟩
  have f0 : ∀ q : Cls (ST n w), q.w.cell? ⟨w.heap.size, 0, none⟩ = some (.bool n.a.v6) := fun q => q.h.1
  have f1 : ∀ q : Cls (ST n w), q.w.cell? ⟨w.heap.size, 1, none⟩ = some (.int .u64 n.a.hi) := fun q => q.h.2.1
  have f2 : ∀ q : Cls (ST n w), q.w.cell? ⟨w.heap.size, 2, none⟩ = some (.int .u64 n.a.lo) := fun q => q.h.2.2.1
  have f3 : ∀ q : Cls (ST n w), q.w.cell? ⟨w.heap.size, 3, none⟩ = some (.int .i64 n.n) := fun q => q.h.2.2.2.1
  refine Cls.region (ST n w) (by kernel_rfl) (by kernel_rfl) (ST.of (low_drewN (Below.refl _ _) 1)) ?_
  repeat (go_big_quiet_step (first | (with_reducible exact Cls.call (K1.out _ (Cls.h _))) | (with_reducible exact Cls.call (K2.out _ (Cls.h _)))))
  refine wpQuiet_nil ?_
  intro n9
  have hk9 := n9.h
  generalize n9.w = w9 at hk9 ⊢
  clear hne n9 f0 f1 f2 f3
  obtain ⟨j0, j1, j2, j3, hs9⟩ := id hk9
  clear k0 k1 k2 k3 hs
  clear K1 K2 JD JA
  go_wp2_with fail
  go_ret
  exact ⟨ret_b E.out.symm, ((Below.refl _ _).alloc (Nat.le_refl _) _).trans (hs9.mono (by simp))⟩
set_option maxHeartbeats 4000000 in
theorem rrightN_B (n : Net) (w : World) (hn : n.ok) (hr : rightA n.a = true) (h0 : n.n < 0) :
    Calls Try.prog 32 #[.agg #[.bool n.a.v6, .int .u64 n.a.hi, .int .u64 n.a.lo, .int .i64 n.n]] w fun e w' => e = .returned (.bool (rightN n)) ∧ Below w.heap.size w w' := by
  have K1 : Hid (∀ W, ST n w W → Calls Try.prog 19 #[.agg #[.bool n.a.v6, .int .u64 n.a.hi, .int .u64 n.a.lo]] W fun e w' => e = .returned (.bool (rightA n.a)) ∧ ST n w w') := Lib.hid fun W h => (rright_any n.a W hn.1).mono fun e w' ⟨he, hb⟩ => ⟨he, ST.of (low_trans h.2.2.2.2 hb)⟩
  have K2 : Hid (∀ W, ST n w W → Calls Try.prog 23 #[.agg #[.bool n.a.v6, .int .u64 n.a.hi, .int .u64 n.a.lo]] W fun e w' => e = .returned (.int .i64 (bitsA n.a : Nat)) ∧ ST n w w') := Lib.hid fun W h => (rbits_any n.a W).mono fun e w' ⟨he, hb⟩ => ⟨he, ST.of (low_trans h.2.2.2.2 hb)⟩
  have JD : Hid (∀ W, ST n w W → ST n w W.drew) := Lib.hid fun W h => ST.of (low_drewN h.2.2.2.2 1)
  have JA : Hid (∀ W o, ST n w W → ST n w (W.alloc o)) := Lib.hid fun W o h => ST.of (Below.alloc h.2.2.2.2 h.2.2.2.2.size o)
  have E := Lib.hid (right_no (n := n) (by rw [← Bool.not_eq_true, makeB_iff]; simp; intro _ _; omega))
  rw [hr] at K1
  have hd0 : decide (n.n < 0) = true := decide_eq_true h0
  clear hr
  have hS0 : ST n w (w.alloc (.cells #[.bool n.a.v6, .int .u64 n.a.hi, .int .u64 n.a.lo, .int .i64 n.n] 43)) := ST.of (Below.refl _ _)
  obtain ⟨k0, k1, k2, k3, hs⟩ := id hS0
  go_enter Try.func32, Try.ntmps32
  go_wp2_with fail
  have hne : Nonempty (Cls (ST n w)) := ⟨⟨_, hS0⟩⟩
  have f0 : ∀ q : Cls (ST n w), q.w.cell? ⟨w.heap.size, 0, none⟩ = some (.bool n.a.v6) := fun q => q.h.1
  have f1 : ∀ q : Cls (ST n w), q.w.cell? ⟨w.heap.size, 1, none⟩ = some (.int .u64 n.a.hi) := fun q => q.h.2.1
  have f2 : ∀ q : Cls (ST n w), q.w.cell? ⟨w.heap.size, 2, none⟩ = some (.int .u64 n.a.lo) := fun q => q.h.2.2.1
  have f3 : ∀ q : Cls (ST n w), q.w.cell? ⟨w.heap.size, 3, none⟩ = some (.int .i64 n.n) := fun q => q.h.2.2.2.1
  refine Cls.region (ST n w) (by kernel_rfl) (by kernel_rfl) (ST.of (low_drewN (Below.refl _ _) 1)) ?_
  repeat (go_big_quiet_step (first | (with_reducible exact Cls.call (K1.out _ (Cls.h _))) | (with_reducible exact Cls.call (K2.out _ (Cls.h _)))))
  refine wpQuiet_nil ?_
  intro n9
  have hk9 := n9.h
  generalize n9.w = w9 at hk9 ⊢
  clear hne n9 f0 f1 f2 f3
  obtain ⟨j0, j1, j2, j3, hs9⟩ := id hk9
  clear k0 k1 k2 k3 hs
  clear K1 K2 JD JA
  go_wp2_with fail
  go_ret
  exact ⟨ret_b E.out.symm, ((Below.refl _ _).alloc (Nat.le_refl _) _).trans (hs9.mono (by simp))⟩
set_option maxHeartbeats 4000000 in
theorem rrightN_C (n : Net) (w : World) (hn : n.ok) (hr : rightA n.a = true) (h0 : ¬ n.n < 0) (h1 : (bitsA n.a : Int) < n.n) :
    Calls Try.prog 32 #[.agg #[.bool n.a.v6, .int .u64 n.a.hi, .int .u64 n.a.lo, .int .i64 n.n]] w fun e w' => e = .returned (.bool (rightN n)) ∧ Below w.heap.size w w' := by
  have K1 : Hid (∀ W, ST n w W → Calls Try.prog 19 #[.agg #[.bool n.a.v6, .int .u64 n.a.hi, .int .u64 n.a.lo]] W fun e w' => e = .returned (.bool (rightA n.a)) ∧ ST n w w') := Lib.hid fun W h => (rright_any n.a W hn.1).mono fun e w' ⟨he, hb⟩ => ⟨he, ST.of (low_trans h.2.2.2.2 hb)⟩
  have K2 : Hid (∀ W, ST n w W → Calls Try.prog 23 #[.agg #[.bool n.a.v6, .int .u64 n.a.hi, .int .u64 n.a.lo]] W fun e w' => e = .returned (.int .i64 (bitsA n.a : Nat)) ∧ ST n w w') := Lib.hid fun W h => (rbits_any n.a W).mono fun e w' ⟨he, hb⟩ => ⟨he, ST.of (low_trans h.2.2.2.2 hb)⟩
  have JD : Hid (∀ W, ST n w W → ST n w W.drew) := Lib.hid fun W h => ST.of (low_drewN h.2.2.2.2 1)
  have JA : Hid (∀ W o, ST n w W → ST n w (W.alloc o)) := Lib.hid fun W o h => ST.of (Below.alloc h.2.2.2.2 h.2.2.2.2.size o)
  have E := Lib.hid (right_no (n := n) (by rw [← Bool.not_eq_true, makeB_iff]; simp; intro _ _; omega))
  rw [hr] at K1
  have hd0 : decide (n.n < 0) = false := decide_eq_false h0
  have hd1 : decide ((bitsA n.a : Int) < n.n) = true := decide_eq_true h1
  clear hr
  have hS0 : ST n w (w.alloc (.cells #[.bool n.a.v6, .int .u64 n.a.hi, .int .u64 n.a.lo, .int .i64 n.n] 43)) := ST.of (Below.refl _ _)
  obtain ⟨k0, k1, k2, k3, hs⟩ := id hS0
  go_enter Try.func32, Try.ntmps32
  go_wp2_with fail
  have hne : Nonempty (Cls (ST n w)) := ⟨⟨_, hS0⟩⟩
  have f0 : ∀ q : Cls (ST n w), q.w.cell? ⟨w.heap.size, 0, none⟩ = some (.bool n.a.v6) := fun q => q.h.1
  have f1 : ∀ q : Cls (ST n w), q.w.cell? ⟨w.heap.size, 1, none⟩ = some (.int .u64 n.a.hi) := fun q => q.h.2.1
  have f2 : ∀ q : Cls (ST n w), q.w.cell? ⟨w.heap.size, 2, none⟩ = some (.int .u64 n.a.lo) := fun q => q.h.2.2.1
  have f3 : ∀ q : Cls (ST n w), q.w.cell? ⟨w.heap.size, 3, none⟩ = some (.int .i64 n.n) := fun q => q.h.2.2.2.1
  refine Cls.region (ST n w) (by kernel_rfl) (by kernel_rfl) (ST.of (low_drewN (Below.refl _ _) 1)) ?_
  repeat (go_big_quiet_step (first | (with_reducible exact Cls.call (K1.out _ (Cls.h _))) | (with_reducible exact Cls.call (K2.out _ (Cls.h _)))))
  refine wpQuiet_nil ?_
  intro n9
  have hk9 := n9.h
  generalize n9.w = w9 at hk9 ⊢
  clear hne n9 f0 f1 f2 f3
  obtain ⟨j0, j1, j2, j3, hs9⟩ := id hk9
  clear k0 k1 k2 k3 hs
  clear K1 K2 JD JA
  go_wp2_with fail
  go_ret
  exact ⟨ret_b E.out.symm, ((Below.refl _ _).alloc (Nat.le_refl _) _).trans (hs9.mono (by simp))⟩
set_option maxHeartbeats 4000000 in
theorem rrightN_D (n : Net) (w : World) (hn : n.ok) (hr : rightA n.a = true) (h0 : ¬ n.n < 0) (h1 : ¬ (bitsA n.a : Int) < n.n) :
    Calls Try.prog 32 #[.agg #[.bool n.a.v6, .int .u64 n.a.hi, .int .u64 n.a.lo, .int .i64 n.n]] w fun e w' => e = .returned (.bool (rightN n)) ∧ Below w.heap.size w w' := by
  have hm : makeB n.a n.n = true := (makeB_iff _ _).2 ⟨hr, by omega, by omega⟩
  have HR := Lib.hid (right_bits hn hm)
  have H2 := Lib.hid (bitN_two n.a)
  have K4 : Hid (∀ W j, j < bitsA n.a → ST n w W → Calls Try.prog 20 #[.agg #[.bool n.a.v6, .int .u64 n.a.hi, .int .u64 n.a.lo], .int .i64 (j : Nat)] W fun e w' => e = .returned (.int .i64 (bitN n.a j : Nat)) ∧ ST n w w') := Lib.hid fun W j hj h => by
    have := rbit_any n.a (j : Int) W hn.1 (by omega) (by have := bitsA_two n.a; omega)
    rw [bitA_in hj] at this
    exact this.mono fun e w' ⟨he, hb⟩ => ⟨he, ST.of (low_trans h.2.2.2.2 hb)⟩
  have K1 : Hid (∀ W, ST n w W → Calls Try.prog 19 #[.agg #[.bool n.a.v6, .int .u64 n.a.hi, .int .u64 n.a.lo]] W fun e w' => e = .returned (.bool (rightA n.a)) ∧ ST n w w') := Lib.hid fun W h => (rright_any n.a W hn.1).mono fun e w' ⟨he, hb⟩ => ⟨he, ST.of (low_trans h.2.2.2.2 hb)⟩
  have K2 : Hid (∀ W, ST n w W → Calls Try.prog 23 #[.agg #[.bool n.a.v6, .int .u64 n.a.hi, .int .u64 n.a.lo]] W fun e w' => e = .returned (.int .i64 (bitsA n.a : Nat)) ∧ ST n w w') := Lib.hid fun W h => (rbits_any n.a W).mono fun e w' ⟨he, hb⟩ => ⟨he, ST.of (low_trans h.2.2.2.2 hb)⟩
  have JD : Hid (∀ W, ST n w W → ST n w W.drew) := Lib.hid fun W h => ST.of (low_drewN h.2.2.2.2 1)
  have JA : Hid (∀ W o, ST n w W → ST n w (W.alloc o)) := Lib.hid fun W o h => ST.of (Below.alloc h.2.2.2.2 h.2.2.2.2.size o)
  have hbb := bitsA_two n.a
  rw [hr] at K1
  have hd0 : decide (n.n < 0) = false := decide_eq_false h0
  have hd1 : decide ((bitsA n.a : Int) < n.n) = false := decide_eq_false h1
  clear hr hm
  obtain ⟨m, hm⟩ : ∃ m : Nat, m = n.n.toNat := ⟨_, rfl⟩
  have HM := Lib.hid (show n.n.toNat = m by omega)
  have HN := Lib.hid (show n.n = (m : Int) by omega)
  have hmb : m ≤ bitsA n.a := by omega
  clear hm
  have hS0 : ST n w (w.alloc (.cells #[.bool n.a.v6, .int .u64 n.a.hi, .int .u64 n.a.lo, .int .i64 n.n] 43)) := ST.of (Below.refl _ _)
  obtain ⟨k0, k1, k2, k3, hs⟩ := id hS0
  go_enter Try.func32, Try.ntmps32
  go_wp2_with fail
  have hne : Nonempty (Cls (ST n w)) := ⟨⟨_, hS0⟩⟩
  have f0 : ∀ q : Cls (ST n w), q.w.cell? ⟨w.heap.size, 0, none⟩ = some (.bool n.a.v6) := fun q => q.h.1
  have f1 : ∀ q : Cls (ST n w), q.w.cell? ⟨w.heap.size, 1, none⟩ = some (.int .u64 n.a.hi) := fun q => q.h.2.1
  have f2 : ∀ q : Cls (ST n w), q.w.cell? ⟨w.heap.size, 2, none⟩ = some (.int .u64 n.a.lo) := fun q => q.h.2.2.1
  have f3 : ∀ q : Cls (ST n w), q.w.cell? ⟨w.heap.size, 3, none⟩ = some (.int .i64 n.n) := fun q => q.h.2.2.2.1
  refine Cls.region (ST n w) (by kernel_rfl) (by kernel_rfl) (ST.of (low_drewN (Below.refl _ _) 1)) ?_
  repeat (go_big_quiet_step (first | (with_reducible exact Cls.call (K1.out _ (Cls.h _))) | (with_reducible exact Cls.call (K2.out _ (Cls.h _)))))
  refine wpQuiet_nil ?_
  intro n9
  have hk9 := n9.h
  generalize n9.w = w9 at hk9 ⊢
  clear hne n9 f0 f1 f2 f3
  obtain ⟨j0, j1, j2, j3, hs9⟩ := id hk9
  clear k0 k1 k2 k3 hs
  all_goals go_wp2_with fail
  all_goals
    go_loopw [3] (fun i wr => ∃ k : Nat, i = .int .i64 k ∧ k ≤ bitsA n.a ∧ Hid (∀ j, m ≤ j → j < k → bitN n.a j = 0) ∧ Hid (m ≤ k) ∧ ST n w wr) (fun i _ => bitsA n.a - (intOf i).toNat)
    case atStart => exact ⟨m, by rw [HN.out], hmb, Lib.hid (fun j h1 h2 => absurd h1 (by omega)), Lib.hid (Nat.le_refl m), by assumption⟩
    case round =>
      obtain ⟨k, rfl, hk, HA, HK, hSr⟩ := hrel
      clear j0 j1 j2 j3 hs9
      obtain ⟨k0, k1, k2, k3, hs⟩ := id hSr
      by_cases hlt : k < bitsA n.a
      · go_wp2_with fail
        refine (K2.out _ hSr).mono ?_
        rintro e w5 ⟨rfl, hS5⟩
        clear k0 k1 k2 k3 hs
        obtain ⟨k0, k1, k2, k3, hs⟩ := id hS5
        rcases H2.out k with hz | ho
        · have HB := Lib.hid (fun W => K4.out W k hlt)
          rw [hz] at HB
          go_wp2_with fail
          refine (HB.out _ hS5).mono ?_
          rintro e w6 ⟨rfl, hS6⟩
          have HA2 : Hid (∀ j, m ≤ j → j < k + 1 → bitN n.a j = 0) := Lib.hid (fun j h1 h2 => by
            rcases Nat.lt_succ_iff_lt_or_eq.1 h2 with h | rfl
            · exact HA.out j h1 h
            · exact hz)
          have HK2 : Hid (m ≤ k + 1) := Lib.hid (by have := HK.out; omega)
          go_wp2
          go_roundw
          case rel => exact ⟨k + 1, by go_num, by omega, HA2, HK2, hS6⟩
          case measure => simp [intOf]; omega
        · have HB := Lib.hid (fun W => K4.out W k hlt)
          rw [ho] at HB
          have E : Hid (rightN n = false) := Lib.hid (by
            rw [← Bool.not_eq_true, HR.out]
            intro h
            have := h k (by rw [HM.out]; exact HK.out) hlt
            omega)
          go_wp2_with fail
          refine (HB.out _ hS5).mono ?_
          rintro e w6 ⟨rfl, hS6⟩
          go_wp2
          go_ret
          exact ⟨ret_b E.out.symm, ((Below.refl _ _).alloc (Nat.le_refl _) _).trans (hS6.2.2.2.2.mono (by simp))⟩
      · obtain rfl : k = bitsA n.a := by omega
        have E : Hid (rightN n = true) := Lib.hid (by
          rw [HR.out, HM.out]
          exact fun j h1 h2 => HA.out j h1 h2)
        go_wp2_with fail
        refine (K2.out _ hSr).mono ?_
        rintro e w5 ⟨rfl, hS5⟩
        go_wp2
        go_ret
        exact ⟨ret_b E.out.symm, ((Below.refl _ _).alloc (Nat.le_refl _) _).trans (hS5.2.2.2.2.mono (by simp))⟩
theorem rrightN_any (n : Net) (w : World) (hn : n.ok) :
    Calls Try.prog 32 #[.agg #[.bool n.a.v6, .int .u64 n.a.hi, .int .u64 n.a.lo, .int .i64 n.n]] w fun e w' => e = .returned (.bool (rightN n)) ∧ Below w.heap.size w w' := by
  cases hr : rightA n.a
  · exact rrightN_A n w hn hr
  · by_cases h0 : n.n < 0
    · exact rrightN_B n w hn hr h0
    · by_cases h1 : (bitsA n.a : Int) < n.n
      · exact rrightN_C n w hn hr h0 h1
      · exact rrightN_D n w hn hr h0 h1
end Go.Proofs.Ytgnjbbohphoojaa.Ci

namespace Go.Proofs.Ytgnjbbohphoojaa.Ci
set_option maxRecDepth 100000
open Go.ChangeShapes Go.WideShapes Go.ChangeAt Go.RowKit
open Dec Words V4 V6 Ad
set_option linter.unusedVariables false
theorem cat3 (a b : List UInt8) : Value.string (⟨a.toArray⟩ ++ ⟨#[47]⟩ ++ ⟨b.toArray⟩) = .string ⟨(a ++ 47 :: b).toArray⟩ := by
  show Value.string (⟨a.toArray⟩ ++ ⟨[47].toArray⟩ ++ ⟨b.toArray⟩) = _
  simp only [ByteArray.mk_append_mk]
  simp
end Go.Proofs.Ytgnjbbohphoojaa.Ci
/- The document's Full for layer 7, over Make. -/
namespace Go.Proofs.Ytgnjbbohphoojaa.Ci
set_option maxRecDepth 100000
open Go.ChangeShapes Go.WideShapes Go.ChangeAt Go.RowKit
open Dec Words V4 V6 Ad
set_option linter.unusedVariables false
set_option maxHeartbeats 4000000 in
theorem rfull_of (a : Adr) (w : World) (ha : a.ok) (MK0 : ∀ W, Calls Try.prog 22 #[.agg #[.bool a.v6, .int .u64 a.hi, .int .u64 a.lo], .int .i64 (bitsA a : Nat)] W fun e w' => e = .returned (.tuple #[.agg #[.bool (makeN a (bitsA a : Int)).a.v6, .int .u64 (makeN a (bitsA a : Int)).a.hi, .int .u64 (makeN a (bitsA a : Int)).a.lo, .int .i64 (makeN a (bitsA a : Int)).n], .bool (makeB a (bitsA a : Int))]) ∧ Below W.heap.size W w') :
    Calls Try.prog 13 #[.agg #[.bool a.v6, .int .u64 a.hi, .int .u64 a.lo]] w fun e w' => e = .returned (.agg #[.bool (fullN a).a.v6, .int .u64 (fullN a).a.hi, .int .u64 (fullN a).a.lo, .int .i64 (fullN a).n]) ∧ Below w.heap.size w w' := by
  have hb := bitsA_two a
  have MK := Lib.hid MK0
  clear MK0
  have BI := Lib.hid (fun W => rbits_any a W)
  have c0 : ∀ w', Stays ((w.alloc (.cells #[.bool a.v6, .int .u64 a.hi, .int .u64 a.lo] 31)).alloc (.cells #[.bool false, .int .u64 0, .int .u64 0, .int .i64 0] 43)) w' → SF a w w' := fun w' h => ⟨cells_left h (by simp [go_sem]), cells_left h (by simp [go_sem]), cells_left h (by simp [go_sem]), cells_left h (by simp [go_sem]), cells_left h (by simp [go_sem]), cells_left h (by simp [go_sem]), cells_left h (by simp [go_sem]), frozen_left h (by simp) (by simp [go_sem]), frozen_left h (by simp) (by simp [go_sem]), frozen_left h (by simp) (by simp [go_sem]), frozen_left h (by simp) (by simp [go_sem]), h⟩
  have IN := Lib.hid c0
  have K1 : Hid (∀ W, SF a w W → Calls Try.prog 23 #[.agg #[.bool a.v6, .int .u64 a.hi, .int .u64 a.lo]] W fun e w' => e = .returned (.int .i64 (bitsA a : Nat)) ∧ SF a w w' ∧ Below W.heap.size W w') := Lib.hid fun W h => (BI.out W).mono fun e w' ⟨he, hb⟩ => ⟨he, IN.out _ (low_trans h.2.2.2.2.2.2.2.2.2.2.2 hb), hb⟩
  have K2 : Hid (∀ W, SF a w W → Calls Try.prog 22 #[.agg #[.bool a.v6, .int .u64 a.hi, .int .u64 a.lo], .int .i64 (bitsA a : Nat)] W fun e w' => e = .returned (.tuple #[.agg #[.bool (makeN a (bitsA a : Int)).a.v6, .int .u64 (makeN a (bitsA a : Int)).a.hi, .int .u64 (makeN a (bitsA a : Int)).a.lo, .int .i64 (makeN a (bitsA a : Int)).n], .bool (makeB a (bitsA a : Int))]) ∧ SF a w w' ∧ Below W.heap.size W w') := Lib.hid fun W h => (MK.out W).mono fun e w' ⟨he, hb⟩ => ⟨he, IN.out _ (low_trans h.2.2.2.2.2.2.2.2.2.2.2 hb), hb⟩
  have E : Hid (fullN a = makeN a (bitsA a : Int)) := Lib.hid rfl
  rw [E.out]
  have hk0 : SF a w ((w.alloc (.cells #[.bool a.v6, .int .u64 a.hi, .int .u64 a.lo] 31)).alloc (.cells #[.bool false, .int .u64 0, .int .u64 0, .int .i64 0] 43)) := c0 _ (Below.refl _ _)
  clear c0 hb
  go_enter Try.func13, Try.ntmps13
  go_wp2_with fail
  go_region_held3 (fun w' => w'.cell? ⟨w.heap.size, 0, none⟩ = some (.bool a.v6) ∧ w'.cell? ⟨w.heap.size, 1, none⟩ = some (.int .u64 a.hi) ∧ w'.cell? ⟨w.heap.size, 2, none⟩ = some (.int .u64 a.lo) ∧ w'.cell? ⟨w.heap.size + 1, 0, none⟩ = some (.bool false) ∧ w'.cell? ⟨w.heap.size + 1, 1, none⟩ = some (.int .u64 0) ∧ w'.cell? ⟨w.heap.size + 1, 2, none⟩ = some (.int .u64 0) ∧ w'.cell? ⟨w.heap.size + 1, 3, none⟩ = some (.int .i64 0) ∧ w'.frozen? ⟨w.heap.size + 1, 0, none⟩ = false ∧ w'.frozen? ⟨w.heap.size + 1, 1, none⟩ = false ∧ w'.frozen? ⟨w.heap.size + 1, 2, none⟩ = false ∧ w'.frozen? ⟨w.heap.size + 1, 3, none⟩ = false ∧ Stays ((w.alloc (.cells #[.bool a.v6, .int .u64 a.hi, .int .u64 a.lo] 31)).alloc (.cells #[.bool false, .int .u64 0, .int .u64 0, .int .i64 0] 43)) w')
    (first
      | assumption
      | (refine IN.out _ ?_; repeat (first | exact Below.refl _ _ | exact Lib.Hid.out ‹_› | exact (‹SF a w _›).2.2.2.2.2.2.2.2.2.2.2 | refine low_drew ?_ | refine Below.alloc ?_ (by first | (simp; done) | (simp; omega)) _ | refine Below.setCell ?_ (by first | (simp; done) | (simp; omega)) _)))
    (first
      | (go_at_call 23; (with_reducible refine (K1.out _ ‹_›).mono ?_); rintro e wb ⟨rfl, hkw, hbw⟩; have hst := Lib.hid hkw.2.2.2.2.2.2.2.2.2.2.2; obtain ⟨z0, z1, z2, z3, z4, z5⟩ := sizes (show w.heap.size + 2 ≤ wb.heap.size by have := hkw.2.2.2.2.2.2.2.2.2.2.2.size; simpa using this); (try (have z6 : w.heap.size + 2 < wb.heap.size := by have := hbw.size; simp at this; omega)); obtain ⟨hcb, hfb⟩ := old hbw)
      | (go_at_call 22; (with_reducible refine (K2.out _ ‹_›).mono ?_); rintro e wm ⟨rfl, hkw, hbw⟩; have hst := Lib.hid hkw.2.2.2.2.2.2.2.2.2.2.2; obtain ⟨z0, z1, z2, z3, z4, z5⟩ := sizes (show w.heap.size + 2 ≤ wm.heap.size by have := hkw.2.2.2.2.2.2.2.2.2.2.2.size; simpa using this); (try (have z6 : w.heap.size + 2 < wm.heap.size := by have := hbw.size; simp at this; omega)); obtain ⟨hcm, hfm⟩ := old hbw))
  all_goals clear MK BI IN K1 K2
  all_goals (first
    | refine swap (P := fun w5 => Exit.then _ _ _ _ w5) (R := fun w5 => SF a w w5 ∧ OF (makeN a (bitsA a : Int)) wm.heap.size w5) ⟨by with_reducible assumption, by with_reducible exact own_new⟩ ?_
    | refine swap (P := fun w5 => Exit.then _ _ _ _ w5) (R := fun w5 => SF a w w5 ∧ OF (makeN a (bitsA a : Int)) wb.heap.size w5) ⟨by with_reducible assumption, by (with_reducible refine own_set ?_ ?_ ?_ ?_) <;> (rw [hcm _ _ (by simp)]; simp [go_sem])⟩ ?_
    | refine swap (P := fun w5 => Exit.then _ _ _ _ w5) (R := fun w5 => SF a w w5 ∧ OF (makeN a (bitsA a : Int)) (w.heap.size + 1 + 1) w5) ⟨by with_reducible assumption, by (with_reducible refine own_set ?_ ?_ ?_ ?_) <;> (rw [hcm _ _ (by omega), hcb _ _ (by simp)]; simp [go_sem])⟩ ?_)
  all_goals rintro w5 ⟨⟨k0, k1, k2, k3, k4, k5, k6, f0, f1, f2, f3, hs9⟩, o0, o1, o2, o3⟩
  all_goals try clear hcm hfm
  all_goals try clear hcb hfb
  all_goals go_wp2_with fail
  all_goals exact bodyPost_ret (v := .agg #[.bool (makeN a (bitsA a : Int)).a.v6, .int .u64 (makeN a (bitsA a : Int)).a.hi, .int .u64 (makeN a (bitsA a : Int)).a.lo, .int .i64 (makeN a (bitsA a : Int)).n]) (by simp [results, Try.results13, go_sem, k3, k4, k5, k6]) rfl ⟨rfl, (((((two_low _ _ _).trans (hs9.mono (by simp; omega))).setCell (by simp) _).setCell (by simp) _).setCell (by simp) _).setCell (by simp) _⟩
end Go.Proofs.Ytgnjbbohphoojaa.Ci
/- Contracts of the document's answers for layer 7: what needs no text. -/
namespace Go.Proofs.Ytgnjbbohphoojaa.Ci
set_option maxRecDepth 100000
open Go.ChangeShapes Go.WideShapes Go.ChangeAt Go.RowKit
open Dec Words V4 V6 Ad
set_option linter.unusedVariables false
end Go.Proofs.Ytgnjbbohphoojaa.Ci
namespace Go.Proofs.Ytgnjbbohphoojaa.Ci
set_option maxRecDepth 100000
open Go.ChangeShapes Go.WideShapes Go.ChangeAt Go.RowKit
open Dec Words V4 V6 Ad
set_option linter.unusedVariables false
/-- Where the first slash at k or behind it stands; the end, if none does. -/
def atF (l : List UInt8) (k : Nat) : Nat := k + (pre (l.drop k)).length
theorem atF_end (l : List UInt8) : atF l l.length = l.length := by unfold atF; simp [pre]
theorem atF_le (l : List UInt8) {k : Nat} (h : k ≤ l.length) : atF l k ≤ l.length := by
  unfold atF
  have := pre_le (l.drop k)
  rw [List.length_drop] at this
  omega
theorem atF_hit {l : List UInt8} {k : Nat} (h : k < l.length) (e : l[k] = 47) : atF l k = k := by
  unfold atF
  rw [List.drop_eq_getElem_cons h, e]; simp [pre]
theorem atF_off {l : List UInt8} {k : Nat} (h : k < l.length) (e : l[k] ≠ 47) : atF l k = atF l (k + 1) := by
  unfold atF
  rw [List.drop_eq_getElem_cons h]
  have : pre (l[k] :: l.drop (k + 1)) = l[k] :: pre (l.drop (k + 1)) := by unfold pre; rw [List.takeWhile_cons, if_pos (by simpa using e)]
  rw [this, List.length_cons]; omega
theorem atF_zero (l : List UInt8) : atF l 0 = (pre l).length := by unfold atF; simp
theorem pre_take (l : List UInt8) : l.take (pre l).length = pre l := by
  unfold pre
  have h := List.takeWhile_append_dropWhile (p := fun b : UInt8 => b != 47) (l := l)
  conv => lhs; rw [← h]
  rw [List.takeWhile_append_dropWhile]
  conv => lhs; arg 2; rw [← h]
  exact List.take_left' rfl
theorem post_drop (l : List UInt8) : l.drop ((pre l).length + 1) = post l := by
  unfold pre post
  have h := List.takeWhile_append_dropWhile (p := fun b : UInt8 => b != 47) (l := l)
  rw [← List.drop_drop]
  congr 1
  conv => lhs; arg 2; rw [← h]
  exact List.drop_left' rfl
theorem slash_len (l : List UInt8) : (slash l = true → (pre l).length < l.length) ∧ (slash l = false → (pre l).length = l.length) := by
  have h := cut_pre l
  constructor
  · intro hs
    refine Nat.lt_of_le_of_ne (pre_le l) fun e => ?_
    have h2 := pre_take l
    rw [e, List.take_of_length_le (Nat.le_refl _)] at h2
    have hm : (47 : UInt8) ∈ l := by unfold slash at hs; simpa using hs
    rw [h2] at hm
    exact cut_parts 47 l (pre l) (by rw [h]; simp) hm
  · intro hs
    have hn : (47 : UInt8) ∉ l := by unfold slash at hs; simpa using hs
    rw [(pre_none hn).1]
theorem byte47 {l : List UInt8} {k : Nat} (h : k < l.length) (e : l[k] = 47) : ((l[k].toNat : Int) == 47) = true ∧ ((l[k].toNat : Int) != 47) = false := by rw [e]; decide
theorem byteno {l : List UInt8} {k : Nat} (h : k < l.length) (e : l[k] ≠ 47) : ((l[k].toNat : Int) == 47) = false ∧ ((l[k].toNat : Int) != 47) = true := by
  have : ¬ ((l[k].toNat : Int) = 47) := fun h2 => e (by
    have h3 : l[k].toNat = (47 : UInt8).toNat := by have : (47 : UInt8).toNat = 47 := rfl; omega
    exact UInt8.toNat_inj.1 h3)
  refine ⟨?_, ?_⟩
  · rw [beq_eq_false_iff_ne]; exact this
  · rw [bne_iff_ne]; exact this
end Go.Proofs.Ytgnjbbohphoojaa.Ci
