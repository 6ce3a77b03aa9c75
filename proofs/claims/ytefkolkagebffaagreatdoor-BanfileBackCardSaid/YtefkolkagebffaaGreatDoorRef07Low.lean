/- The document's answers for layer 7: what is cut, masked, made. -/
import Derived.Test.YtefkolkagebffaaGreatDoorRef06All
import Derived.Test.YtefkolkagebffaaGreatDoorCidrLow
namespace Go.Proofs.YtefkolkagebffaaGreatDoor.Ci
set_option maxRecDepth 100000
open Go.ChangeShapes Go.WideShapes Go.ChangeAt Go.RowKit
open Dec Words V4 V6 Ad
set_option linter.unusedVariables false
/-- What the document's loop has of the first numbers behind k rounds. -/
def cutH (hi n k : Nat) : Nat := keep hi (64 - min k n)
def cutL (lo n k : Nat) : Nat := keep lo (64 - min k (n - 64))
theorem cut_on {x n k : Nat} (hk : k < 64) (h : k < n) : keep x (64 - min (k + 1) n) = keep x (64 - min k n) + x / 2 ^ (63 - k) % 2 * 2 ^ (63 - k) := by
  rw [show 64 - min (k + 1) n = 63 - k from by omega, show 64 - min k n = (63 - k) + 1 from by omega, keep_step x (63 - k)]
theorem cut_off' {x n k : Nat} (h : n ≤ k) : keep x (64 - min (k + 1) n) = keep x (64 - min k n) := by
  rw [show min (k + 1) n = min k n from by omega]
def half (k : Nat) : Nat := 9223372036854775808 / 2 ^ k
theorem half_lt {k : Nat} (hk : k < 64) : half k = 2 ^ (63 - k) := by
  unfold half
  rw [show (9223372036854775808 : Nat) = 2 ^ 63 from by decide, Nat.pow_div (by omega) (by omega)]
theorem half_pos {k : Nat} (hk : k < 64) : 0 < half k ∧ half k ≤ 9223372036854775808 := by
  refine ⟨by rw [half_lt hk]; exact Nat.two_pow_pos _, Nat.div_le_self _ _⟩
theorem half_next (k : Nat) : half k / 2 = half (k + 1) := by
  unfold half
  rw [Nat.div_div_eq_div_mul, Nat.pow_succ]
theorem cut_end_hi {hi n : Nat} : cutH hi n 64 = keep hi (64 - n) := by unfold cutH; congr 1; omega
theorem cut_end_lo {lo n : Nat} (h : lo < 18446744073709551616) (hn : n ≤ 128) : cutL lo n 64 = keep lo (128 - n) := by
  unfold cutL
  by_cases h64 : 64 ≤ n
  · congr 1; omega
  · rw [show 64 - min 64 (n - 64) = 64 from by omega, keep_low (r := 64) (by omega), keep_low (r := 128 - n) (Nat.lt_of_lt_of_le h (Nat.pow_le_pow_right (n := 2) (i := 64) (by omega) (by omega)))]
theorem odd_u64 {q : Nat} (h : q < 18446744073709551616) : (IntKind.u64.wrap (q : Int)).tmod 2 = ((q % 2 : Nat) : Int) := by
  rw [IntKind.wrap_u64, Int.emod_eq_of_lt (by omega) (by omega), Int.tmod_eq_emod_of_nonneg (by omega)]; rfl
theorem cut_ways {hi n k : Nat} (hk : k < 64) (h : hi < 18446744073709551616) :
    (k < n ∧ ((IntKind.u64.wrap ((hi : Int) / (half k : Int))).tmod 2 == 1) = true ∧ cutH hi n (k + 1) = cutH hi n k + half k ∧ cutH hi n k + half k ≤ 18446744073709551615) ∨
    (k < n ∧ ((IntKind.u64.wrap ((hi : Int) / (half k : Int))).tmod 2 == 1) = false ∧ cutH hi n (k + 1) = cutH hi n k) ∨ (¬ k < n ∧ cutH hi n (k + 1) = cutH hi n k) := by
  have hl := keep_le hi (64 - min (k + 1) n)
  have he : (IntKind.u64.wrap ((hi : Int) / (half k : Int))).tmod 2 = ((hi / half k % 2 : Nat) : Int) := by
    rw [← Int.natCast_ediv]; exact odd_u64 (Nat.lt_of_le_of_lt (Nat.div_le_self _ _) h)
  by_cases hn : k < n
  · have hs := cut_on (x := hi) hk hn
    rw [← half_lt hk] at hs
    unfold cutH
    rcases Nat.mod_two_eq_zero_or_one (hi / half k) with h0 | h1
    · refine .inr (.inl ⟨hn, by rw [he, h0]; rfl, by rw [hs, h0]; omega⟩)
    · rw [h1, Nat.one_mul] at hs
      refine .inl ⟨hn, by rw [he, h1]; rfl, hs, by rw [← hs]; omega⟩
  · exact .inr (.inr ⟨hn, cut_off' (by omega)⟩)
theorem cutL_ways {lo n k : Nat} (hk : k < 64) (h : lo < 18446744073709551616) :
    (k + 64 < n ∧ ((IntKind.u64.wrap ((lo : Int) / (half k : Int))).tmod 2 == 1) = true ∧ cutL lo n (k + 1) = cutL lo n k + half k ∧ cutL lo n k + half k ≤ 18446744073709551615) ∨
    (k + 64 < n ∧ ((IntKind.u64.wrap ((lo : Int) / (half k : Int))).tmod 2 == 1) = false ∧ cutL lo n (k + 1) = cutL lo n k) ∨ (¬ k + 64 < n ∧ cutL lo n (k + 1) = cutL lo n k) := by
  rcases cut_ways (hi := lo) (n := n - 64) hk h with ⟨a, b, c, d⟩ | ⟨a, b, c⟩ | ⟨a, c⟩
  · exact .inl ⟨by omega, b, c, d⟩
  · exact .inr (.inl ⟨by omega, b, c⟩)
  · exact .inr (.inr ⟨by omega, c⟩)
set_option maxHeartbeats 4000000 in
theorem rcut_any (hi lo n : Nat) (w : World) (h1 : hi < 18446744073709551616) (h2 : lo < 18446744073709551616) (hn : n ≤ 128) :
    Calls Tryz.prog 65 #[.int .u64 hi, .int .u64 lo, .int .i64 (n : Nat)] w fun e w' => e = .returned (.tuple #[.int .u64 (keep hi (64 - n) : Nat), .int .u64 (keep lo (128 - n) : Nat)]) ∧ w = w' := by
  have EH := Lib.hid (cut_end_hi (hi := hi) (n := n))
  have EL := Lib.hid (cut_end_lo h2 hn)
  have H2 := Lib.hid h2
  have H1 := Lib.hid h1
  go_enter Tryz.func65, Tryz.ntmps65
  go_wp2_with fail
  go_loop [8, 9, 10, 11] (fun a b h i => ∃ k : Nat, k ≤ 64 ∧ i = .int .i64 k ∧ h = .int .u64 (half k : Nat) ∧ a = .int .u64 (cutH hi n k : Nat) ∧ b = .int .u64 (cutL lo n k : Nat)) (fun _ _ _ i => 64 - (intOf i).toNat)
  case atStart => exact ⟨0, by omega, rfl, rfl, by unfold cutH; rw [keep_low (by have := h1; simp; omega)]; rfl, by unfold cutL; rw [keep_low (by have := h2; simp; omega)]; rfl⟩
  case round =>
    obtain ⟨k, hk, rfl, rfl, rfl, rfl⟩ := hrel
    by_cases hlt : k < 64
    · obtain ⟨p1, p2⟩ := half_pos hlt
      have HN := Lib.hid (half_next k)
      have c1 : cutH hi n k ≤ 18446744073709551615 := by have := keep_le hi (64 - min k n); have := H1.out; unfold cutH; omega
      have c2 : cutL lo n k ≤ 18446744073709551615 := by have := keep_le lo (64 - min k (n - 64)); have := H2.out; unfold cutL; omega
      rcases cut_ways (hi := hi) (n := n) hlt H1.out with ⟨g1, g2, g3, g4⟩ | ⟨g1, g2, g3⟩ | ⟨g1, g3⟩
      all_goals have HA := Lib.hid g3
      all_goals clear g3
      all_goals (rcases cutL_ways (n := n) hlt H2.out with ⟨e1, e2, e3, e4⟩ | ⟨e1, e2, e3⟩ | ⟨e1, e3⟩)
      all_goals have HB := Lib.hid e3
      all_goals clear e3
      all_goals go_wp2_with fail
      all_goals
        go_round
        case rel => exact ⟨k + 1, by omega, by go_num, by rw [← HN.out]; go_num, by rw [HA.out] <;> go_num, by rw [HB.out] <;> go_num⟩
        case measure => simp [intOf]; omega
    · obtain rfl : k = 64 := by omega
      rw [EH.out, EL.out]
      go_wp2_with fail
      go_ret2
      exact ⟨rfl, rfl⟩
end Go.Proofs.YtefkolkagebffaaGreatDoor.Ci

namespace Go.Proofs.YtefkolkagebffaaGreatDoor.Ci
set_option maxRecDepth 100000
open Go.ChangeShapes Go.WideShapes Go.ChangeAt Go.RowKit
open Dec Words V4 V6 Ad
set_option linter.unusedVariables false
theorem mask_six {hi lo k : Nat} {i : Int} (hr : rightA ⟨true, hi, lo⟩ = true) (hk : k = min i.toNat 128) : maskA ⟨true, hi, lo⟩ i = ⟨true, keep hi (64 - k), keep lo (128 - k)⟩ := by
  unfold maskA
  rw [if_pos hr, show bitsA ⟨true, hi, lo⟩ = 128 from rfl, ← hk]
  unfold firstA
  rw [show bitsA ⟨true, hi, lo⟩ = 128 from rfl]
  simp only []
  rw [show 128 - k - 64 = 64 - k from by omega]
theorem mask_four {lo k : Nat} {i : Int} (hr : rightA ⟨false, 0, lo⟩ = true) (hk : k = min i.toNat 32) : maskA ⟨false, 0, lo⟩ i = ⟨false, 0, keep lo (128 - (96 + k))⟩ := by
  unfold maskA
  rw [if_pos hr, show bitsA ⟨false, 0, lo⟩ = 32 from rfl, ← hk]
  unfold firstA
  rw [show bitsA ⟨false, 0, lo⟩ = 32 from rfl]
  simp only []
  rw [keep_nil, show 32 - k = 128 - (96 + k) from by omega]
set_option maxHeartbeats 4000000 in
theorem rmask_any (a : Adr) (i : Int) (w : World) (ha : a.ok) (h1 : -9223372036854775808 ≤ i) (h2 : i ≤ 9223372036854775807) :
    Calls Tryz.prog 119 #[.agg #[.bool a.v6, .int .u64 a.hi, .int .u64 a.lo], .int .i64 i] w fun e w' => e = .returned (.agg #[.bool (maskA a i).v6, .int .u64 (maskA a i).hi, .int .u64 (maskA a i).lo]) ∧ Below w.heap.size w w' := by
  have RI := Lib.hid (fun W => rright_any a W ha)
  cases hr : rightA a
  · have E : maskA a i = ⟨false, 0, 0⟩ := by unfold maskA; rw [hr]; rfl
    rw [E]
    clear E
    simp only []
    rw [hr] at RI
    clear hr
    go_enter Tryz.func119, Tryz.ntmps119
    go_wp2_with fail
    refine (RI.out _).mono ?_
    rintro e w1 ⟨rfl, hb1⟩
    obtain ⟨hc, hf⟩ := old hb1
    go_wp2_with fail
    exact bodyPost_ret (v := .agg #[.bool false, .int .u64 0, .int .u64 0]) (by simp [results, Tryz.results119, go_sem, hc]) rfl ⟨rfl, ((((two_low _ _ _).trans (hb1.mono (by simp; omega))).setCell (by simp) _).setCell (by simp) _).setCell (by simp) _⟩
  · obtain ⟨v, hi, lo⟩ := a
    obtain ⟨ha1, ha2⟩ := ha
    simp only [] at ha1 ha2
    cases v
    · have hhi : hi = 0 := by unfold rightA at hr; simp at hr; exact hr.1
      subst hhi
      have BI := Lib.hid (rbits_is ⟨false, 0, lo⟩ (n := 32) rfl)
      by_cases hi0 : i < 0
      · have E := mask_four (k := 0) (i := i) hr (by omega)
        rw [E]
        clear E
        simp only []
        have CU : Hid (∀ W, Calls Tryz.prog 65 #[.int .u64 0, .int .u64 lo, .int .i64 96] W fun e w' => e = .returned (.tuple #[.int .u64 (keep 0 (64 - 96) : Nat), .int .u64 (keep lo (128 - 96) : Nat)]) ∧ W = w') := Lib.hid fun W => rcut_any 0 lo 96 W (by omega) ha2 (by omega)
        rw [hr] at RI
        clear hr
        go_enter Tryz.func119, Tryz.ntmps119
        go_wp2_with fail
        refine (RI.out _).mono ?_
        rintro e w1 ⟨rfl, hb1⟩
        obtain ⟨hc, hf⟩ := old hb1
        go_wp2_with fail
        refine (BI.out _).mono ?_
        rintro e w2 ⟨rfl, hb2⟩
        have hb12 := low_trans hb1 hb2
        clear hc hf
        obtain ⟨hc, hf⟩ := old hb12
        go_wp2_with fail
        refine (CU.out _).mono ?_
        rintro e w4 ⟨rfl, rfl⟩
        go_wp2_with fail
        exact bodyPost_ret (v := .agg #[.bool false, .int .u64 0, .int .u64 (keep lo (128 - (96 + 0)) : Nat)]) (by simp [results, Tryz.results119, go_sem, hc]) rfl ⟨rfl, ((((two_low _ _ _).trans (hb12.mono (by simp; omega))).setCell (by simp) _).setCell (by simp) _).setCell (by simp) _⟩
      · by_cases hi1 : 32 < i
        · have E := mask_four (k := 32) (i := i) hr (by omega)
          rw [E]
          clear E
          simp only []
          have CU : Hid (∀ W, Calls Tryz.prog 65 #[.int .u64 0, .int .u64 lo, .int .i64 128] W fun e w' => e = .returned (.tuple #[.int .u64 (keep 0 (64 - 128) : Nat), .int .u64 (keep lo (128 - 128) : Nat)]) ∧ W = w') := Lib.hid fun W => rcut_any 0 lo 128 W (by omega) ha2 (by omega)
          rw [hr] at RI
          clear hr
          go_enter Tryz.func119, Tryz.ntmps119
          go_wp2_with fail
          refine (RI.out _).mono ?_
          rintro e w1 ⟨rfl, hb1⟩
          obtain ⟨hc, hf⟩ := old hb1
          go_wp2_with fail
          refine (BI.out _).mono ?_
          rintro e w2 ⟨rfl, hb2⟩
          have hb12 := low_trans hb1 hb2
          clear hc hf
          obtain ⟨hc, hf⟩ := old hb12
          go_wp2_with fail
          refine (BI.out _).mono ?_
          rintro e w3 ⟨rfl, hb3⟩
          have hb13 := low_trans hb12 hb3
          clear hc hf
          obtain ⟨hc, hf⟩ := old hb13
          go_wp2_with fail
          refine (CU.out _).mono ?_
          rintro e w4 ⟨rfl, rfl⟩
          go_wp2_with fail
          exact bodyPost_ret (v := .agg #[.bool false, .int .u64 0, .int .u64 (keep lo (128 - (96 + 32)) : Nat)]) (by simp [results, Tryz.results119, go_sem, hc]) rfl ⟨rfl, ((((two_low _ _ _).trans (hb13.mono (by simp; omega))).setCell (by simp) _).setCell (by simp) _).setCell (by simp) _⟩
        · obtain ⟨k, rfl⟩ := Int.eq_ofNat_of_zero_le (Int.not_lt.1 hi0)
          have hk : k ≤ 32 := by omega
          clear hi0 hi1
          have E := mask_four (k := k) (i := (k : Int)) hr (by omega)
          rw [E]
          clear E
          simp only []
          have CU : Hid (∀ W, Calls Tryz.prog 65 #[.int .u64 0, .int .u64 lo, .int .i64 (96 + (k : Int))] W fun e w' => e = .returned (.tuple #[.int .u64 (keep 0 (64 - (96 + k)) : Nat), .int .u64 (keep lo (128 - (96 + k)) : Nat)]) ∧ W = w') := Lib.hid fun W => by rw [show (96 + (k : Int)) = ((96 + k : Nat) : Int) from by omega]; exact rcut_any 0 lo (96 + k) W (by omega) ha2 (by omega)
          rw [hr] at RI
          clear hr
          go_enter Tryz.func119, Tryz.ntmps119
          go_wp2_with fail
          refine (RI.out _).mono ?_
          rintro e w1 ⟨rfl, hb1⟩
          obtain ⟨hc, hf⟩ := old hb1
          go_wp2_with fail
          refine (BI.out _).mono ?_
          rintro e w2 ⟨rfl, hb2⟩
          have hb12 := low_trans hb1 hb2
          clear hc hf
          obtain ⟨hc, hf⟩ := old hb12
          go_wp2_with fail
          refine (CU.out _).mono ?_
          rintro e w4 ⟨rfl, rfl⟩
          go_wp2_with fail
          exact bodyPost_ret (v := .agg #[.bool false, .int .u64 0, .int .u64 (keep lo (128 - (96 + k)) : Nat)]) (by simp [results, Tryz.results119, go_sem, hc]) rfl ⟨rfl, ((((two_low _ _ _).trans (hb12.mono (by simp; omega))).setCell (by simp) _).setCell (by simp) _).setCell (by simp) _⟩
    · have BI := Lib.hid (rbits_is ⟨true, hi, lo⟩ (n := 128) rfl)
      by_cases hi0 : i < 0
      · have E := mask_six (k := 0) (i := i) hr (by omega)
        rw [E]
        clear E
        simp only []
        have CU : Hid (∀ W, Calls Tryz.prog 65 #[.int .u64 hi, .int .u64 lo, .int .i64 0] W fun e w' => e = .returned (.tuple #[.int .u64 (keep hi (64 - 0) : Nat), .int .u64 (keep lo (128 - 0) : Nat)]) ∧ W = w') := Lib.hid fun W => rcut_any hi lo 0 W (by omega) ha2 (by omega)
        rw [hr] at RI
        clear hr
        go_enter Tryz.func119, Tryz.ntmps119
        go_wp2_with fail
        refine (RI.out _).mono ?_
        rintro e w1 ⟨rfl, hb1⟩
        obtain ⟨hc, hf⟩ := old hb1
        go_wp2_with fail
        refine (BI.out _).mono ?_
        rintro e w2 ⟨rfl, hb2⟩
        have hb12 := low_trans hb1 hb2
        clear hc hf
        obtain ⟨hc, hf⟩ := old hb12
        go_wp2_with fail
        refine (CU.out _).mono ?_
        rintro e w4 ⟨rfl, rfl⟩
        go_wp2_with fail
        exact bodyPost_ret (v := .agg #[.bool true, .int .u64 (keep hi (64 - 0) : Nat), .int .u64 (keep lo (128 - 0) : Nat)]) (by simp [results, Tryz.results119, go_sem, hc]) rfl ⟨rfl, ((((two_low _ _ _).trans (hb12.mono (by simp; omega))).setCell (by simp) _).setCell (by simp) _).setCell (by simp) _⟩
      · by_cases hi1 : 128 < i
        · have E := mask_six (k := 128) (i := i) hr (by omega)
          rw [E]
          clear E
          simp only []
          have CU : Hid (∀ W, Calls Tryz.prog 65 #[.int .u64 hi, .int .u64 lo, .int .i64 128] W fun e w' => e = .returned (.tuple #[.int .u64 (keep hi (64 - 128) : Nat), .int .u64 (keep lo (128 - 128) : Nat)]) ∧ W = w') := Lib.hid fun W => rcut_any hi lo 128 W (by omega) ha2 (by omega)
          rw [hr] at RI
          clear hr
          go_enter Tryz.func119, Tryz.ntmps119
          go_wp2_with fail
          refine (RI.out _).mono ?_
          rintro e w1 ⟨rfl, hb1⟩
          obtain ⟨hc, hf⟩ := old hb1
          go_wp2_with fail
          refine (BI.out _).mono ?_
          rintro e w2 ⟨rfl, hb2⟩
          have hb12 := low_trans hb1 hb2
          clear hc hf
          obtain ⟨hc, hf⟩ := old hb12
          go_wp2_with fail
          refine (BI.out _).mono ?_
          rintro e w3 ⟨rfl, hb3⟩
          have hb13 := low_trans hb12 hb3
          clear hc hf
          obtain ⟨hc, hf⟩ := old hb13
          go_wp2_with fail
          refine (CU.out _).mono ?_
          rintro e w4 ⟨rfl, rfl⟩
          go_wp2_with fail
          exact bodyPost_ret (v := .agg #[.bool true, .int .u64 (keep hi (64 - 128) : Nat), .int .u64 (keep lo (128 - 128) : Nat)]) (by simp [results, Tryz.results119, go_sem, hc]) rfl ⟨rfl, ((((two_low _ _ _).trans (hb13.mono (by simp; omega))).setCell (by simp) _).setCell (by simp) _).setCell (by simp) _⟩
        · obtain ⟨k, rfl⟩ := Int.eq_ofNat_of_zero_le (Int.not_lt.1 hi0)
          have hk : k ≤ 128 := by omega
          clear hi0 hi1
          have E := mask_six (k := k) (i := (k : Int)) hr (by omega)
          rw [E]
          clear E
          simp only []
          have CU : Hid (∀ W, Calls Tryz.prog 65 #[.int .u64 hi, .int .u64 lo, .int .i64 (k : Int)] W fun e w' => e = .returned (.tuple #[.int .u64 (keep hi (64 - k) : Nat), .int .u64 (keep lo (128 - k) : Nat)]) ∧ W = w') := Lib.hid fun W => rcut_any hi lo k W (by omega) ha2 (by omega)
          rw [hr] at RI
          clear hr
          go_enter Tryz.func119, Tryz.ntmps119
          go_wp2_with fail
          refine (RI.out _).mono ?_
          rintro e w1 ⟨rfl, hb1⟩
          obtain ⟨hc, hf⟩ := old hb1
          go_wp2_with fail
          refine (BI.out _).mono ?_
          rintro e w2 ⟨rfl, hb2⟩
          have hb12 := low_trans hb1 hb2
          clear hc hf
          obtain ⟨hc, hf⟩ := old hb12
          go_wp2_with fail
          refine (CU.out _).mono ?_
          rintro e w4 ⟨rfl, rfl⟩
          go_wp2_with fail
          exact bodyPost_ret (v := .agg #[.bool true, .int .u64 (keep hi (64 - k) : Nat), .int .u64 (keep lo (128 - k) : Nat)]) (by simp [results, Tryz.results119, go_sem, hc]) rfl ⟨rfl, ((((two_low _ _ _).trans (hb12.mono (by simp; omega))).setCell (by simp) _).setCell (by simp) _).setCell (by simp) _⟩
end Go.Proofs.YtefkolkagebffaaGreatDoor.Ci

namespace Go.Proofs.YtefkolkagebffaaGreatDoor.Ci
set_option maxRecDepth 100000
open Go.ChangeShapes Go.WideShapes Go.ChangeAt Go.RowKit
open Dec Words V4 V6 Ad
set_option linter.unusedVariables false
set_option maxHeartbeats 2000000 in
theorem rmake_any (a : Adr) (i : Int) (w : World) (ha : a.ok) (h1 : -9223372036854775808 ≤ i) (h2 : i ≤ 9223372036854775807) :
    Calls Tryz.prog 66 #[.agg #[.bool a.v6, .int .u64 a.hi, .int .u64 a.lo], .int .i64 i] w fun e w' => e = .returned (.tuple #[.agg #[.bool (makeN a i).a.v6, .int .u64 (makeN a i).a.hi, .int .u64 (makeN a i).a.lo, .int .i64 (makeN a i).n], .bool (makeB a i)]) ∧ Below w.heap.size w w' := by
  have RI := Lib.hid (fun W => rright_any a W ha)
  have BI := Lib.hid (fun W => rbits_any a W)
  have hb := bitsA_two a
  cases hr : rightA a
  · have EB : makeB a i = false := by rw [← Bool.not_eq_true, makeB_iff]; simp [hr]; try omega
    have E : makeN a i = zero := by unfold makeN; rw [EB]; rfl
    rw [E, EB]
    clear E EB
    simp only [zero]
    rw [hr] at RI
    clear hr hb
    go_enter Tryz.func66, Tryz.ntmps66
    go_wp2_with fail
    refine (RI.out _).mono ?_
    rintro e w1 ⟨rfl, hb1⟩
    obtain ⟨hc, hf⟩ := old hb1
    go_wp2_with fail
    exact bodyPost_ret (v := .tuple #[.agg #[.bool false, .int .u64 0, .int .u64 0, .int .i64 0], .bool false]) (by simp [results, Tryz.results66, go_sem, hc]) rfl ⟨rfl, (((((two_low _ _ _).trans (hb1.mono (by simp; omega))).setCell (by simp) _).setCell (by simp) _).setCell (by simp) _).setCell (by simp) _⟩
  · by_cases hi : i < 0
    · have EB : makeB a i = false := by rw [← Bool.not_eq_true, makeB_iff]; simp [hr]; try omega
      have E : makeN a i = zero := by unfold makeN; rw [EB]; rfl
      rw [E, EB]
      clear E EB
      simp only [zero]
      rw [hr] at RI
      clear hr hb
      go_enter Tryz.func66, Tryz.ntmps66
      go_wp2_with fail
      refine (RI.out _).mono ?_
      rintro e w1 ⟨rfl, hb1⟩
      obtain ⟨hc, hf⟩ := old hb1
      go_wp2_with fail
      exact bodyPost_ret (v := .tuple #[.agg #[.bool false, .int .u64 0, .int .u64 0, .int .i64 0], .bool false]) (by simp [results, Tryz.results66, go_sem, hc]) rfl ⟨rfl, (((((two_low _ _ _).trans (hb1.mono (by simp; omega))).setCell (by simp) _).setCell (by simp) _).setCell (by simp) _).setCell (by simp) _⟩
    · by_cases hk : (bitsA a : Int) < i
      · have EB : makeB a i = false := by rw [← Bool.not_eq_true, makeB_iff]; simp [hr]; try omega
        have E : makeN a i = zero := by unfold makeN; rw [EB]; rfl
        rw [E, EB]
        clear E EB
        simp only [zero]
        rw [hr] at RI
        clear hr hb
        go_enter Tryz.func66, Tryz.ntmps66
        go_wp2_with fail
        refine (RI.out _).mono ?_
        rintro e w1 ⟨rfl, hb1⟩
        obtain ⟨hc, hf⟩ := old hb1
        go_wp2_with fail
        refine (BI.out _).mono ?_
        rintro e w2 ⟨rfl, hb2⟩
        have hb12 := low_trans hb1 hb2
        clear hc hf
        obtain ⟨hc, hf⟩ := old hb12
        go_wp2_with fail
        exact bodyPost_ret (v := .tuple #[.agg #[.bool false, .int .u64 0, .int .u64 0, .int .i64 0], .bool false]) (by simp [results, Tryz.results66, go_sem, hc]) rfl ⟨rfl, (((((two_low _ _ _).trans (hb12.mono (by simp; omega))).setCell (by simp) _).setCell (by simp) _).setCell (by simp) _).setCell (by simp) _⟩
      · obtain ⟨k, rfl⟩ := Int.eq_ofNat_of_zero_le (Int.not_lt.1 hi)
        have hk' : k ≤ bitsA a := by omega
        have EB : makeB a (k : Int) = true := (makeB_iff _ _).2 ⟨hr, by omega, by omega⟩
        have E : makeN a (k : Int) = ⟨firstA a k, (k : Int)⟩ := by unfold makeN; rw [EB]; rfl
        rw [E, EB]
        clear E EB
        simp only []
        have FM : maskA a (k : Int) = firstA a k := by unfold maskA; rw [if_pos hr, Int.toNat_natCast, Nat.min_eq_left hk']
        have FI := Lib.hid (fun W => rmask_any a (k : Int) W ha (by omega) (by omega))
        rw [FM] at FI
        clear FM
        rw [hr] at RI
        clear hr hi hk
        have hk9 : k ≤ 128 := by omega
        clear hb
        go_enter Tryz.func66, Tryz.ntmps66
        go_wp2_with fail
        refine (RI.out _).mono ?_
        rintro e w1 ⟨rfl, hb1⟩
        obtain ⟨hc, hf⟩ := old hb1
        go_wp2_with fail
        refine (BI.out _).mono ?_
        rintro e w2 ⟨rfl, hb2⟩
        have hb12 := low_trans hb1 hb2
        clear hc hf
        obtain ⟨hc, hf⟩ := old hb12
        go_wp2_with fail
        refine (FI.out _).mono ?_
        rintro e w3 ⟨rfl, hb3⟩
        have hb13 := low_trans hb12 hb3
        clear hc hf
        obtain ⟨hc, hf⟩ := old hb13
        go_wp2_with fail
        exact bodyPost_ret (v := .tuple #[.agg #[.bool (firstA a k).v6, .int .u64 (firstA a k).hi, .int .u64 (firstA a k).lo, .int .i64 (k : Nat)], .bool true]) (by simp [results, Tryz.results66, go_sem, hc]) rfl ⟨rfl, (((((two_low _ _ _).trans (hb13.mono (by simp; omega))).setCell (by simp) _).setCell (by simp) _).setCell (by simp) _).setCell (by simp) _⟩
end Go.Proofs.YtefkolkagebffaaGreatDoor.Ci
